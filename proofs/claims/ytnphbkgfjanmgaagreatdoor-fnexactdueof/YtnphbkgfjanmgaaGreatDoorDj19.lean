/-
  The small functions of the model's matching: proved by walking them.
-/
import Derived.Test.YtnphbkgfjanmgaaGreatDoorDj18
set_option linter.unusedVariables false
set_option maxHeartbeats 6400000
set_option maxRecDepth 100000
namespace Go.Proofs.YtnphbkgfjanmgaaGreatDoor
open Go.RowKit
theorem cM (t:Int) (w:World) :
  Calls Tryz.prog 54 #[I t] w fun e w'=>e = yn (.bool (aW t))∧w' = w:=by
 by_cases N:t = 1
 ·subst N
  go_enter Tryz.func54,Tryz.ntmps54
  go_wp2_with fail
  go_ret
  exact ⟨rfl,rfl⟩
 have b1:(t == 1) = false:=by rw [xe]; exact N
 have HK:Hid (aW t = (t == 5)):=by
  show _ = _
  by_cases h5:t = 5 <;> simp [aW,N,h5]
 clear N
 go_enter Tryz.func54,Tryz.ntmps54
 go_wp2_with fail
 go_ret
 exact ⟨zp (U HK).symm,rfl⟩
def bL (sd tk:Int) (o:Od):Bool:=if tk = 0 then true else if sd = 1 then decide (o.ticks ≤ tk) else decide (tk ≤ o.ticks)
theorem l04Crosses_any (sd tk:Int) (o:Od) (w:World) :
  Calls Tryz.prog 80 #[I sd,I tk,.agg (yx o.id o.side o.ticks o.left o.life o.tag).toArray] w fun e w'=>e = yn (.bool (bL sd tk o))∧yp w w':=by
 obtain ⟨id,side,ticks,left,life,tag⟩:=o
 simp only
 by_cases h0:tk = 0
 ·subst h0
  go_enter Tryz.func80,Tryz.ntmps80
  go_wp2_with fail
  go_ret
  exact ⟨rfl,by go_grown⟩
 have b0:(tk == 0) = false:=by rw [xe]; exact h0
 by_cases N:sd = 1
 ·subst N
  have HK:Hid (bL 1 tk ⟨id,side,ticks,left,life,tag⟩ = decide (ticks ≤ tk)):=by show _ = _; simp [bL,h0]
  clear h0
  go_enter Tryz.func80,Tryz.ntmps80
  go_wp2_with fail
  go_ret
  exact ⟨zp (U HK).symm,by go_grown⟩
 have b1:(sd == 1) = false:=by rw [xe]; exact N
 have HK:Hid (bL sd tk ⟨id,side,ticks,left,life,tag⟩ = decide (tk ≤ ticks)):=by show _ = _; simp [bL,h0,N]
 clear h0 N
 go_enter Tryz.func80,Tryz.ntmps80
 go_wp2_with fail
 go_ret
 exact ⟨zp (U HK).symm,by go_grown⟩
theorem cX (v:Value) (l:List Od) (id:Int) (w:World) (hr:RdR Od.vs 6 w v l) :
  Calls Tryz.prog 78 #[v,I id] w fun e w'=>e = yn (I (plc l id))∧yp w w':=by
 obtain ⟨a,cap,rfl,xA,hc⟩:=hr
 have xt:∀ (k:Nat) (c:Od),l[k]? = some c→∃ b off,a = some (Q b off)∧b < w.heap.size∧w.rangeAt b (off + k * 6) c.vs:=by
  intro k c hk
  obtain ⟨b,off,N,Y,h3⟩:=hc (by intro h; rw [h] at hk; simp at hk)
  exact ⟨b,off,N,Y,h3 k c hk⟩
 have HC:=H xt
 clear xt hc
 go_enter Tryz.func78,Tryz.ntmps78
 go_wp2_with fail
 go_loopw [5] (fun iv wr=>∃ (k:Nat),k ≤ l.length∧iv = I k∧Hid (plc l id = plcF id (l.drop k) k)∧yp w wr) (fun iv _=>l.length - (intOf iv).toNat)
 case atStart=>exact ⟨0,Nat.zero_le _,rfl,rfl,Below.refl _ _⟩
 case round =>
  obtain ⟨k,hk,rfl,uM,xl⟩:=hrel
  have HB:=H xl
  clear xl
  by_cases xJ:k < l.length
  ·obtain ⟨c,ur⟩:∃ c,l[k]? = some c:=⟨_,yI xJ⟩
   have HP:Hid (plc l id = if c.id = id then (k:Int) else plcF id (l.drop (k + 1)) (k + 1)):=by
    have:=U uM
    rw [drop_get ur] at this
    exact this
   obtain ⟨b,off,rfl,E,X⟩:=U HC k c ur
   obtain ⟨g0,g1,g2,g3,g4,g5⟩:=zB (zc X (U HB) E)
   have uF:(k:Int) < l.length:=by omega
   clear ur X E uM
   by_cases ui:c.id = id
   ·have E:(c.id == id) = true:=by simpa using ui
    have HK:Hid (plc l id = k):=by have:=U HP; rw [if_pos ui] at this; exact this
    clear ui
    go_wp2_with fail
    go_ret
    exact ⟨zA (U HK).symm,U HB⟩
   ·have E:(c.id == id) = false:=by simpa using ui
    have HK:Hid (plc l id = plcF id (l.drop (k + 1)) (k + 1)):=by have:=U HP; rw [if_neg ui] at this; exact this
    clear ui
    go_wp2_with fail
    go_roundw
    case rel=>exact ⟨k + 1,by omega,by go_num,U HK,U HB⟩
    case measure=>simp [intOf]; omega
  ·have HK:Hid (plc l id = -1):=by
    have h:=U uM
    rw [xb (by omega)] at h
    exact h
   go_wp2_with fail
   go_ret
   exact ⟨zA (U HK).symm,U HB⟩
theorem bitsS_any (x:Nat) (w:World) :
  Calls Tryz.prog 103 #[yk x] w fun e w'=>e = yn (.int .u64 (fbit x))∧w' = w:=by
 have E:=fbits
 cases h:nanB x with
 | true =>
  have HF:=H (show fbit x = 9221120237041090560 from if_pos h)
  have h':(FloatKind.f64.format.order x x != some Ordering.eq) = true:=h
  clear h
  go_enter Tryz.func103,Tryz.ntmps103
  go_wp2
  go_ret
  exact ⟨zA (by rw [U HF]; rfl),rfl⟩
 | false =>
  have HF:=H (show fbit x = x from if_neg (by rw [h]; decide))
  have h':(FloatKind.f64.format.order x x != some Ordering.eq) = false:=h
  clear h
  go_enter Tryz.func103,Tryz.ntmps103
  go_wp2
  go_ret
  exact ⟨zA (by rw [U HF]),rfl⟩
theorem l04Zero_any (x:Nat) (w:World) :
  Calls Tryz.prog 182 #[yk x] w fun e w'=>e = yn (.bool (decide (fbit x = 0)))∧w' = w:=by
 have HL:=H (fun w=>bitsS_any x w)
 generalize fbit x = u at *
 have hdec:decide (u = 0) = (((u:Nat):Int) == 0):=by
  by_cases h:u = 0 <;> simp [h]
 go_enter Tryz.func182,Tryz.ntmps182
 go_wp2_with fail
 refine (U HL _).mono ?_
 rintro e w' ⟨rfl,rfl⟩
 have HD:=H hdec
 clear hdec
 go_wp2_with fail
 go_ret
 exact ⟨zp (U HD).symm,rfl⟩
theorem l04Taker_any (next:Int) (a:Option Addr) (n cap:Nat) (c:Cm) (w:World) :
  Calls Tryz.prog 76 #[.agg #[I next,.slice a n cap],cmV c] w fun e w'=>e = yn (.agg (yx next c.s (tkS c.p) c.q c.l c.g).toArray)∧yp w w':=by
 obtain ⟨k,s,t,l,q,i,p,g⟩:=c
 unfold cmV
 simp only
 have HT:=H (fun W=>l01Ticks_any p W)
 generalize tkS p = tt at HT ⊢
 generalize tkOk p = tb at HT
 go_enter Tryz.func76,Tryz.ntmps76
 go_wp2_with fail
 refine (U HT _).mono ?_
 rintro e w' ⟨rfl,rfl⟩
 go_wp2_with fail
 go_returns
 exact ⟨rfl,by go_grown⟩
def aY (c:Cm):Bool :=
 if c.k = 1 then (c.i == 0) else if c.s ≠ 0 ∨ c.t ≠ 0 ∨ c.l ≠ 0 ∨ fbit c.p ≠ 0 ∨ c.g.toList.isEmpty = false then false else ((c.k == 3) || (c.q == 0)) && ((c.k != 4) || (c.i == 0))
theorem l04Form_any (c:Cm) (w:World) :
  Calls Tryz.prog 143 #[cmV c] w fun e w'=>e = yn (.bool (aY c))∧yp w w':=by
 obtain ⟨k,s,t,l,q,i,p,g⟩:=c
 unfold cmV
 simp only
 by_cases N:k = 1
 ·subst N
  have HK:Hid (aY ⟨1,s,t,l,q,i,p,g⟩ = (i == 0)):=by show _ = _; simp [aY]
  go_enter Tryz.func143,Tryz.ntmps143
  go_wp2_with fail
  go_ret
  exact ⟨zp (U HK).symm,by go_grown⟩
 have b1:(k == 1) = false:=by rw [xe]; exact N
 by_cases hs:s = 0
 ·subst hs
  by_cases ht:t = 0
  ·subst ht
   by_cases hl:l = 0
   ·subst hl
    have HZ:=H (fun W=>l04Zero_any p W)
    have HFI:Hid (∀ z:Bool,decide (fbit p = 0) = z→aY ⟨k,0,0,0,q,i,p,g⟩ = if z = true then (if g.toList.isEmpty = false then false else ((k == 3) || (q == 0)) && ((k != 4) || (i == 0))) else false):=by
     intro z hz
     subst hz
     by_cases hp:fbit p = 0 <;> simp [aY,N,hp]
    have HFJ:=H (U HFI _ rfl)
    generalize decide (fbit p = 0) = z at HZ HFJ
    clear HFI N
    go_enter Tryz.func143,Tryz.ntmps143
    go_wp2_with fail
    refine (U HZ _).mono ?_
    rintro e w' ⟨rfl,rfl⟩
    cases z
    ·have HK:Hid (aY ⟨k,0,0,0,q,i,p,g⟩ = false):=U HFJ
     go_wp2_with fail
     go_ret
     exact ⟨zp (U HK).symm,by go_grown⟩
    ·have HFK:Hid (aY ⟨k,0,0,0,q,i,p,g⟩ = if g.toList.isEmpty = false then false else ((k == 3) || (q == 0)) && ((k != 4) || (i == 0))):=by
      show _ = _
      have:=U HFJ
      simpa using this
     clear HFJ HZ
     cases hg:g.toList.isEmpty
     ·have bg:(!g.toList.isEmpty) = true:=by rw [hg]; rfl
      have HK:Hid (aY ⟨k,0,0,0,q,i,p,g⟩ = false):=(U HFK).trans (if_pos hg)
      clear hg
      go_wp2_with fail
      go_ret
      exact ⟨zp (U HK).symm,by go_grown⟩
     have bg:(!g.toList.isEmpty) = false:=by rw [hg]; rfl
     have HFL:Hid (aY ⟨k,0,0,0,q,i,p,g⟩ = (((k == 3) || (q == 0)) && ((k != 4) || (i == 0)))):=(U HFK).trans (if_neg (by rw [hg]; simp))
     clear hg HFK
     by_cases h3:k = 3
     ·subst h3
      have HK:Hid (aY ⟨3,0,0,0,q,i,p,g⟩ = true):=(U HFL).trans (by simp)
      go_wp2_with fail
      go_ret
      exact ⟨zp (U HK).symm,by go_grown⟩
     have b3:(k == 3) = false:=by rw [xe]; exact h3
     by_cases hq:q = 0
     ·subst hq
      by_cases h4:k = 4
      ·subst h4
       have HK:Hid (aY ⟨4,0,0,0,0,i,p,g⟩ = (i == 0)):=(U HFL).trans (by simp)
       clear h3
       go_wp2_with fail
       go_ret
       exact ⟨zp (U HK).symm,by go_grown⟩
      ·have b4:(k != 4) = true:=by simpa using h4
       have HK:Hid (aY ⟨k,0,0,0,0,i,p,g⟩ = true):=(U HFL).trans (by simp [h4])
       clear h3 h4
       go_wp2_with fail
       go_ret
       exact ⟨zp (U HK).symm,by go_grown⟩
     ·have bq:(q == 0) = false:=by rw [xe]; exact hq
      have HK:Hid (aY ⟨k,0,0,0,q,i,p,g⟩ = false):=(U HFL).trans (by simp [h3,hq])
      clear h3 hq
      go_wp2_with fail
      go_ret
      exact ⟨zp (U HK).symm,by go_grown⟩
   ·have HK:Hid (aY ⟨k,0,0,l,q,i,p,g⟩ = false):=by show _ = _; simp [aY,N,hl]
    have bl:(l != 0) = true:=by simpa using hl
    clear N hl
    go_enter Tryz.func143,Tryz.ntmps143
    go_wp2_with fail
    go_ret
    exact ⟨zp (U HK).symm,by go_grown⟩
  ·have HK:Hid (aY ⟨k,0,t,l,q,i,p,g⟩ = false):=by show _ = _; simp [aY,N,ht]
   have bl:(t != 0) = true:=by simpa using ht
   clear N ht
   go_enter Tryz.func143,Tryz.ntmps143
   go_wp2_with fail
   go_ret
   exact ⟨zp (U HK).symm,by go_grown⟩
 ·have HK:Hid (aY ⟨k,s,t,l,q,i,p,g⟩ = false):=by show _ = _; simp [aY,N,hs]
  have bl:(s != 0) = true:=by simpa using hs
  clear N hs
  go_enter Tryz.func143,Tryz.ntmps143
  go_wp2_with fail
  go_ret
  exact ⟨zp (U HK).symm,by go_grown⟩
end Go.Proofs.YtnphbkgfjanmgaaGreatDoor
namespace Go.Proofs.YtnphbkgfjanmgaaGreatDoor
open Go Ieee

theorem read_place {x:Nat} {s:Bool} {m:Nat} {i:Int} (h:double.read x = .number s m i):-1074 ≤ i:=by
 unfold Format.read at h
 simp only [bin,inf,sw,lp] at h
 split at h
 ·simp only [Datum.number.injEq] at h; omega
 ·split at h
  ·simp only [Datum.number.injEq] at h; omega
  ·split at h <;> cases h
theorem cut_pos {n drop:Nat} (h:2 ^ drop ≤ n):0 < Toward.even.cut false n drop:=by
 unfold Toward.cut
 simp only
 have hg:1 <<< min drop (n.log2 + 2) ≤ n:=by
  rw [Nat.one_shiftLeft]
  exact yO (Nat.pow_le_pow_right (by decide) (Nat.min_le_left _ _)) h
 have hp:0 < 1 <<< min drop (n.log2 + 2):=by rw [Nat.one_shiftLeft]; exact Nat.two_pow_pos _
 have:=Nat.div_pos hg hp
 omega
theorem near_pos {m:Nat} {i:Int} (hm:m ≠ 0) (hi:-1074 ≤ i):0 < double.nearest false (m * 4503599627370496) (i + -50):=by
 have hmag:¬ m * 4503599627370496 = 0:=by omega
 have hlog:=log_up hm
 have Y:2 ^ (m.log2 + 52) ≤ m * 4503599627370496:=by
  have h:=((Nat.log2_eq_iff hm).1 rfl).1
  rw [Nat.pow_add,show (2:Nat) ^ 52 = 4503599627370496 from rfl]
  exact Nat.mul_le_mul_right _ h
 unfold Format.nearest
 rw [if_neg hmag]
 simp only [hlog,fb,lp,bin,inf,Format.word,Bool.false_eq_true,if_false]
 have hlast:i + -50 + ((m.log2 + 52:Nat):Int) - (52:Nat) ≤ max (i + -50 + ((m.log2 + 52:Nat):Int) - (52:Nat)) (-1074):=Int.le_max_left _ _
 have hup:max (i + -50 + ((m.log2 + 52:Nat):Int) - (52:Nat)) (-1074) ≤ i + -50 + ((m.log2 + 52:Nat):Int):=Int.max_le.2 ⟨by omega,by omega⟩
 generalize max (i + -50 + ((m.log2 + 52:Nat):Int) - (52:Nat)) (-1074) = last at *
 have e0:(i + -50 - last).toNat = 0:=by omega
 rw [e0,Nat.shiftLeft_zero]
 have hc:=cut_pos (n:=m * 4503599627370496) (drop:=(last - (i + -50)).toNat) (yO (Nat.pow_le_pow_right (by decide) (by omega)) Y)
 generalize Toward.even.cut false (m * 4503599627370496) (last - (i + -50)).toNat = kept at *
 omega
theorem four_pos {x r:Nat} (h0:double.order x 0 = some .gt) (N:double.order x 4687829947429945344 = some .lt ∨ double.order x 4687829947429945344 = some .eq) (hr:double.mul x 4616189618054758400 = some r):double.order 0 r ≠ some .eq:=by
 rcases above_zero h0 with hx | ⟨m,i,hx,hm⟩
 ·exfalso
  unfold Format.order at N
  rw [hx,read_top] at N
  simp [Datum.order] at N
 ·have hw:=within hx hm N
  have jI:double.mul x 4616189618054758400 = some (double.nearest false (m * 4503599627370496) (i + -50)):=by
   unfold Format.mul
   rw [hx,read_four]
   rfl
  rw [jI] at hr
  have hr:=Option.some.inj hr
  have qJ:=near_pos hm (read_place hx)
  have xJ:=near_le hm hw
  rw [hr] at qJ xJ
  clear hr jI
  have hneg:(r / 9223372036854775808 % 2 == 1) = false:=by simp; omega
  have hrr:r % 9223372036854775808 = r:=by omega
  obtain ⟨m',i',e,hm'⟩:∃ m' i',double.read r = .number false m' i'∧m' ≠ 0:=by
   unfold Format.read
   simp only [bin,inf,sw,hneg,hrr,lp]
   split
   ·exact ⟨_,_,rfl,by omega⟩
   ·rw [if_pos (by omega)]
    exact ⟨_,_,rfl,by omega⟩
  unfold Format.order
  rw [read_zero,e]
  simp only [Datum.order,ne_eq,Option.some.injEq]
  intro h
  have h:=Std.LawfulEqCmp.eq_of_compare h
  simp only [signed,Bool.false_eq_true,if_false,Nat.shiftLeft_eq,Nat.zero_mul] at h
  have xD:m' * 2 ^ (i' - min (-1074) i').toNat ≠ 0:=Nat.mul_ne_zero hm' (Nat.pos_iff_ne_zero.1 (Nat.two_pow_pos _))
  omega
end Go.Proofs.YtnphbkgfjanmgaaGreatDoor
namespace Go.Proofs.YtnphbkgfjanmgaaGreatDoor
open Go.RowKit
theorem float_nought:floatOfInt .f64 0 = 0:=by decide
theorem tkS_pos {x:Nat} (h:tkOk x = true):tkS x ≠ 0:=by
 rw [tkS_ok h]
 unfold tk
 rw [if_pos h]
 unfold tkOk at h
 simp only [xf,Bool.or_eq_true,beq_iff_eq] at h
 obtain ⟨⟨h0,N⟩,Y⟩:=h
 intro e
 rw [e,float_nought] at Y
 obtain ⟨r,n,hm,_⟩:=price_four h0 N
 have hr:tkR x = r:=by
  unfold tkR
  rw [show FloatKind.f64.format.mul x 4616189618054758400 = some r from hm]
  rfl
 rw [hr] at Y
 exact four_pos h0 N hm Y
theorem fbit_zero {x:Nat} (h:fbit x = 0):x = 0:=by
 unfold fbit at h
 split at h
 ·omega
 ·exact h
theorem tkS_zero {x:Nat} (h:fbit x = 0):tkS x = 0:=by
 rw [fbit_zero h]
 decide
theorem side_of {s:Int} (h:betB s 1 2 = true):s = 1 ∨ s = 2:=by
 simp [betB] at h; omega
theorem oth_of {s:Int} (h:s = 1 ∨ s = 2):3 - s = othS s:=by
 rcases h with rfl | rfl <;> rfl
theorem cross_meet {c:Cm} (hp:prcB c = true) (o:Od):bL c.s (tkS c.p) o = bp c o:=by
 unfold prcB at hp
 by_cases Y:c.t = 2
 ·rw [if_pos Y] at hp
  rw [tkS_zero (of_decide_eq_true hp),bL,if_pos rfl,bp,if_pos Y]
 ·rw [if_neg Y] at hp
  rw [bL,if_neg (tkS_pos hp),bp,if_neg Y,tkS_ok hp]
def NexS (l:List Od) (t:Od) (k:Int):Prop :=
 (k = -1∧(t.left = 0 ∨ aR l (othS t.side) = none ∨ ∃ o,aR l (othS t.side) = some o∧bL t.side t.ticks o = false)) ∨
 ∃ (i:Nat) (o:Od),k = i∧i < l.length∧l[i]? = some o∧aR l (othS t.side) = some o∧bL t.side t.ticks o = true∧t.left ≠ 0
theorem front_pre {l:List Od} {sd k:Int} (hr:bu l) (h:FrPre l sd l.length k):(k = -1∧aR l sd = none) ∨ ∃ (i:Nat) (o:Od),k = i∧i < l.length∧l[i]? = some o∧aR l sd = some o:=by
 rcases frPre_end h with ⟨rfl,vL⟩ | ⟨i,o,rfl,hi,oq⟩
 ·refine .inl ⟨rfl,?_⟩
  rcases eG (s:=decide (sd = 1)) (sd:=sd) hr with ⟨N,_⟩ | ⟨j,o',N,hf'⟩
  ·exact N
  ·exact absurd hf'.2.1 (vL o' (yP hf'.1))
 ·refine .inr ⟨i,o,rfl,hi,oq.1,?_⟩
  rcases eG (s:=decide (sd = 1)) (sd:=sd) hr with ⟨_,vL⟩ | ⟨j,o',N,hf'⟩
  ·exact absurd oq.2.1 (vL o (yP oq.1))
  ·rw [aR,N,(front_unique hf' oq).2]
def fdyF:List Od→Nat→Int
 | [],_=>-1
 | o :: r,k=>if o.life = 1 then k else fdyF r (k + 1)
def fdy (l:List Od):Int:=fdyF l 0
theorem isOfDay_any (o:Od) (w:World) :
  Calls Tryz.prog 101 #[.agg (yx o.id o.side o.ticks o.left o.life o.tag).toArray] w fun e w'=>e = yn (.bool (o.life == 1))∧yp w w':=by
 obtain ⟨uJ,side,ticks,left,life,tag⟩:=o
 simp only
 go_enter Tryz.func101,Tryz.ntmps101
 go_wp2_with fail
 go_ret
 exact ⟨rfl,by go_grown⟩
theorem indexDay_any (v:Value) (l:List Od) (w:World) (hr:RdR Od.vs 6 w v l) :
  Calls Tryz.prog 100 #[v,.func (.func 101) #[] #[]] w fun e w'=>e = yn (I (fdy l))∧yp w w':=by
 obtain ⟨a,cap,rfl,xA,hc⟩:=hr
 have xt:∀ (k:Nat) (c:Od),l[k]? = some c→∃ b off,a = some (Q b off)∧b < w.heap.size∧w.rangeAt b (off + k * 6) c.vs:=by
  intro k c hk
  obtain ⟨b,off,N,Y,h3⟩:=hc (by intro h; rw [h] at hk; simp at hk)
  exact ⟨b,off,N,Y,h3 k c hk⟩
 have HC:=H xt
 clear xt hc
 go_enter Tryz.func100,Tryz.ntmps100
 go_wp2_with fail
 go_loopw [8] (fun iv wr=>∃ (k:Nat),k ≤ l.length∧iv = I k∧Hid (fdy l = fdyF (l.drop k) k)∧yp w wr) (fun iv _=>l.length - (intOf iv).toNat)
 case atStart=>exact ⟨0,Nat.zero_le _,rfl,rfl,Below.refl _ _⟩
 case round =>
  obtain ⟨k,hk,rfl,uM,xl⟩:=hrel
  have HB:=H xl
  clear xl
  by_cases xJ:k < l.length
  ·obtain ⟨c,ur⟩:∃ c,l[k]? = some c:=⟨_,yI xJ⟩
   have HP:Hid (fdy l = if c.life = 1 then (k:Int) else fdyF (l.drop (k + 1)) (k + 1)):=by
    have:=U uM
    rw [drop_get ur] at this
    exact this
   obtain ⟨b,off,rfl,E,X⟩:=U HC k c ur
   obtain ⟨g0,g1,g2,g3,g4,g5⟩:=zB (zc X (U HB) E)
   have uF:(k:Int) < l.length:=by omega
   clear ur X E uM
   go_wp2_with fail
   refine (isOfDay_any c wr).mono ?_
   rintro e w3 ⟨rfl,xQ⟩
   have xN:=H (fC (U HB) xQ)
   clear xQ
   by_cases ui:c.life = 1
   ·have E:(c.life == 1) = true:=by simpa using ui
    have HK:Hid (fdy l = k):=by have:=U HP; rw [if_pos ui] at this; exact this
    clear ui
    go_wp2_with fail
    go_ret
    exact ⟨zA (U HK).symm,U xN⟩
   ·have E:(c.life == 1) = false:=by simpa using ui
    have HK:Hid (fdy l = fdyF (l.drop (k + 1)) (k + 1)):=by have:=U HP; rw [if_neg ui] at this; exact this
    clear ui
    go_wp2_with fail
    go_roundw
    case rel=>exact ⟨k + 1,by omega,by go_num,U HK,U xN⟩
    case measure=>simp [intOf]; omega
  ·have HK:Hid (fdy l = -1):=by
    have h:=U uM
    rw [xb (by omega)] at h
    exact h
   go_wp2_with fail
   go_ret
   exact ⟨zA (U HK).symm,U HB⟩
structure Bx (W:World) (b:Nat) (vs:List Value):Prop where
 r:W.rangeAt b 0 vs
 t:W.there b 0 vs.length
theorem zq (w:World) (vs:List Value) (t:TypeId):Bx (w.alloc (Obj.cells vs.toArray t)) w.heap.size vs :=
 ⟨fun j u h=>by
  rw [cell_of_row _ w.heap.size (0 + j) vs.toArray t (0,0) (heap_alloc_new w _)]
  simpa using h,bR (heap_alloc_new w _) (by simp)⟩
theorem zf {C b:Nat} {W hj:World} {vs:List Value} (h:Bx W b vs) (E:Below C W hj) (hC:b < C):Bx hj b vs:=⟨zc h.r E hC,zo h.t E hC⟩
theorem K {W:World} {b:Nat} {vs:List Value} (h:Bx W b vs) (j:Nat) {u:Value} (V:vs[j]? = some u):W.cell? (Q b j) = some u:=by
 have:=h.r j u V; rwa [Nat.zero_add] at this
theorem zd {W:World} {b:Nat} {vs:List Value} (h:Bx W b vs) (j:Nat) (V:j < vs.length):W.frozen? (Q b j) = false:=by
 have:=(h.t j V).2; rwa [Nat.zero_add] at this
theorem aX {W:World} {b j:Nat} {vs:List Value} {u:Value} (h:Bx W b vs) (V:j < vs.length):Bx (W.setCell (Q b j) u) b (vs.set j u):=by
 refine ⟨fun i v hi=>?_,by rw [List.length_set]; exact xc (vs:=[u]) h.t b j⟩
 rw [Nat.zero_add]
 by_cases aG:j = i
 ·subst aG
  rw [List.getElem?_set_self V] at hi
  cases hi
  have:=h.r j _ (yI V)
  rw [Nat.zero_add] at this
  exact yN _ _ _ this
 ·rw [yX aG] at hi
  have:=h.r i v hi
  rw [Nat.zero_add] at this
  rw [yM _ _ _ _ (bY aG)]
  exact this
theorem zw {W:World} {b:Nat} {vs us:List Value} (h:Bx W b vs) (hl:us.length = vs.length):Bx (W.setCells b 0 us) b us :=
 ⟨yY W b 0 us (fun j V=>h.t j (by omega)),by rw [hl]; exact xc h.t b 0 us⟩
theorem bA (b k:Nat) (hk:k ≠ b):∀ (vs:List Value) (o:Nat) (W:World),(W.setCells b o vs).heap[k]? = W.heap[k]?
 | [],_,_=>rfl
 | u :: us,o,W=>by rw [World.setCells,bA b k hk us (o + 1)]; exact yT _ _ _ _ hk
theorem aO {W hj:World} {b:Nat} {vs:List Value} (h:Bx W b vs) (E:hj.heap[b]? = W.heap[b]?):Bx hj b vs :=
 ⟨fun j u V=>by rw [yR (a:=(Q b (0 + j))) E]; exact h.r j u V,
  fun j V=>by rw [yR (a:=(Q b (0 + j))) E,World.frozen?_of_block (a:=(Q b (0 + j))) E]; exact h.t j V⟩
theorem zP {W:World} {b c j:Nat} {vs:List Value} {u:Value} (h:Bx W b vs) (hc:b ≠ c):Bx (W.setCell (Q c j) u) b vs:=aO h (yT _ _ _ _ hc)
theorem bx_others {W:World} {b c:Nat} {vs us:List Value} (h:Bx W b vs) (hc:b ≠ c):Bx (W.setCells c 0 us) b vs:=aO h (bA c b hc us 0 W)
theorem cQ {W:World} {b:Nat} {vs:List Value} (h:Bx W b vs) (n:Nat):Bx (W.drewN n) b vs:=⟨h.r,h.t⟩
theorem zJ {W:World} {b:Nat} {vs:List Value} (h:Bx W b vs):Bx W.drew b vs:=⟨h.r,h.t⟩
theorem yz {W:World} {b:Nat} {v0 v1 v2 v3 v4 v5 v6 v7 v8 v9 v10 v11 v12 v13:Value} (h:Bx W b [v0,v1,v2,v3,v4,v5,v6,v7,v8,v9,v10,v11,v12,v13]):W.cell? ⟨b,0,none⟩ = some v0∧W.cell? ⟨b,1,none⟩ = some v1∧W.cell? ⟨b,2,none⟩ = some v2∧W.cell? ⟨b,3,none⟩ = some v3∧W.cell? ⟨b,4,none⟩ = some v4∧W.cell? ⟨b,5,none⟩ = some v5∧W.cell? ⟨b,6,none⟩ = some v6∧W.cell? ⟨b,7,none⟩ = some v7∧W.cell? ⟨b,8,none⟩ = some v8∧W.cell? ⟨b,9,none⟩ = some v9∧W.cell? ⟨b,10,none⟩ = some v10∧W.cell? ⟨b,11,none⟩ = some v11∧W.cell? ⟨b,12,none⟩ = some v12∧W.cell? ⟨b,13,none⟩ = some v13:=⟨K h 0 rfl,K h 1 rfl,K h 2 rfl,K h 3 rfl,K h 4 rfl,K h 5 rfl,K h 6 rfl,K h 7 rfl,K h 8 rfl,K h 9 rfl,K h 10 rfl,K h 11 rfl,K h 12 rfl,K h 13 rfl⟩
theorem yA {W:World} {b:Nat} {v0 v1 v2 v3 v4 v5 v6 v7:Value} (h:Bx W b [v0,v1,v2,v3,v4,v5,v6,v7]):W.cell? ⟨b,0,none⟩ = some v0∧W.cell? ⟨b,1,none⟩ = some v1∧W.cell? ⟨b,2,none⟩ = some v2∧W.cell? ⟨b,3,none⟩ = some v3∧W.cell? ⟨b,4,none⟩ = some v4∧W.cell? ⟨b,5,none⟩ = some v5∧W.cell? ⟨b,6,none⟩ = some v6∧W.cell? ⟨b,7,none⟩ = some v7:=⟨K h 0 rfl,K h 1 rfl,K h 2 rfl,K h 3 rfl,K h 4 rfl,K h 5 rfl,K h 6 rfl,K h 7 rfl⟩
theorem yB {W:World} {b:Nat} {v0 v1 v2 v3 v4 v5:Value} (h:Bx W b [v0,v1,v2,v3,v4,v5]):W.cell? ⟨b,0,none⟩ = some v0∧W.cell? ⟨b,1,none⟩ = some v1∧W.cell? ⟨b,2,none⟩ = some v2∧W.cell? ⟨b,3,none⟩ = some v3∧W.cell? ⟨b,4,none⟩ = some v4∧W.cell? ⟨b,5,none⟩ = some v5:=⟨K h 0 rfl,K h 1 rfl,K h 2 rfl,K h 3 rfl,K h 4 rfl,K h 5 rfl⟩
theorem fE (w:World) (vs:List Value) (t:TypeId):Below w.heap.size w (w.alloc (Obj.cells vs.toArray t))∧Hid (Bx (w.alloc (Obj.cells vs.toArray t)) w.heap.size vs):=⟨(Below.refl _ _).alloc (Nat.le_refl _) _,zq w vs t⟩
theorem fF (w:World) (vs:List Value) (t:TypeId):Hid (Below w.heap.size w (w.alloc (Obj.cells vs.toArray t)))∧Hid (Bx (w.alloc (Obj.cells vs.toArray t)) w.heap.size vs):=⟨(Below.refl _ _).alloc (Nat.le_refl _) _,zq w vs t⟩
end Go.Proofs.YtnphbkgfjanmgaaGreatDoor
