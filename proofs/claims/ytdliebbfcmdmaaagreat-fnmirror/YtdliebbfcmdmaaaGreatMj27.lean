/-
  The small functions of the model's matching: proved by walking them.
-/
import Derived.Test.YtdliebbfcmdmaaaGreatMj26
set_option linter.unusedVariables false
set_option maxHeartbeats 6400000
set_option maxRecDepth 100000
namespace Go.Proofs.YtdliebbfcmdmaaaGreat
open Go.RowKit
theorem cj (t:Int) (w:World) :
  Calls Tryz.prog 21 #[H t] w fun e w'=>e = ym (.bool (aA t))∧w' = w:=by
 by_cases Q:t = 1
 ·subst Q
  go_enter Tryz.func21,Tryz.ntmps21
  go_wp2_with fail
  go_ret
  exact ⟨rfl,rfl⟩
 have b1:(t == 1) = false:=by rw [xd]; exact Q
 have HK:Hid (aA t = (t == 5)):=by
  show _ = _
  by_cases h5:t = 5 <;> simp [aA,Q,h5]
 clear Q
 go_enter Tryz.func21,Tryz.ntmps21
 go_wp2_with fail
 go_ret
 exact ⟨zy (U HK).symm,rfl⟩
def bm (sd tk:Int) (o:Od):Bool:=if tk = 0 then true else if sd = 1 then decide (o.ticks ≤ tk) else decide (tk ≤ o.ticks)
theorem l04Crosses_any (sd tk:Int) (o:Od) (w:World) :
  Calls Tryz.prog 96 #[H sd,H tk,.agg (yv o.id o.side o.ticks o.left o.life o.tag).toArray] w fun e w'=>e = ym (.bool (bm sd tk o))∧yn w w':=by
 obtain ⟨id,side,ticks,left,life,tag⟩:=o
 simp only
 by_cases h0:tk = 0
 ·subst h0
  go_enter Tryz.func96,Tryz.ntmps96
  go_wp2_with fail
  go_ret
  exact ⟨rfl,by go_grown⟩
 have b0:(tk == 0) = false:=by rw [xd]; exact h0
 by_cases Q:sd = 1
 ·subst Q
  have HK:Hid (bm 1 tk ⟨id,side,ticks,left,life,tag⟩ = decide (ticks ≤ tk)):=by show _ = _; simp [bm,h0]
  clear h0
  go_enter Tryz.func96,Tryz.ntmps96
  go_wp2_with fail
  go_ret
  exact ⟨zy (U HK).symm,by go_grown⟩
 have b1:(sd == 1) = false:=by rw [xd]; exact Q
 have HK:Hid (bm sd tk ⟨id,side,ticks,left,life,tag⟩ = decide (tk ≤ ticks)):=by show _ = _; simp [bm,h0,Q]
 clear h0 Q
 go_enter Tryz.func96,Tryz.ntmps96
 go_wp2_with fail
 go_ret
 exact ⟨zy (U HK).symm,by go_grown⟩
theorem cZ (v:Value) (l:List Od) (id:Int) (w:World) (hr:RdR Od.vs 6 w v l) :
  Calls Tryz.prog 26 #[v,H id] w fun e w'=>e = ym (H (plc l id))∧yn w w':=by
 obtain ⟨a,A,rfl,xD,hc⟩:=hr
 have xq:∀ (k:Nat) (c:Od),l[k]? = some c→∃ b off,a = some (J b off)∧b < w.heap.size∧w.rangeAt b (off + k * 6) c.vs:=by
  intro k c hk
  obtain ⟨b,off,Q,N,h3⟩:=hc (by intro h; rw [h] at hk; simp at hk)
  exact ⟨b,off,Q,N,h3 k c hk⟩
 have HC:=Y xq
 clear xq hc
 go_enter Tryz.func26,Tryz.ntmps26
 go_wp2_with fail
 go_loopw [5] (fun iv wr=>∃ (k:Nat),k ≤ l.length∧iv = H k∧Hid (plc l id = plcF id (l.drop k) k)∧yn w wr) (fun iv _=>l.length - (intOf iv).toNat)
 case atStart=>exact ⟨0,Nat.zero_le _,rfl,rfl,Below.refl _ _⟩
 case round =>
  obtain ⟨k,hk,rfl,jZ,xk⟩:=hrel
  have HB:=Y xk
  clear xk
  by_cases xK:k < l.length
  ·obtain ⟨c,vd⟩:∃ c,l[k]? = some c:=⟨_,yH xK⟩
   have HP:Hid (plc l id = if c.id = id then (k:Int) else plcF id (l.drop (k + 1)) (k + 1)):=by
    have:=U jZ
    rw [drop_get vd] at this
    exact this
   obtain ⟨b,off,rfl,L,xo⟩:=U HC k c vd
   obtain ⟨g0,g1,g2,g3,g4,g5⟩:=zC (zb xo (U HB) L)
   have uv:(k:Int) < l.length:=by omega
   clear vd xo L jZ
   by_cases qE:c.id = id
   ·have L:(c.id == id) = true:=by simpa using qE
    have HK:Hid (plc l id = k):=by have:=U HP; rw [if_pos qE] at this; exact this
    clear qE
    go_wp2_with fail
    go_ret
    exact ⟨zp (U HK).symm,U HB⟩
   ·have L:(c.id == id) = false:=by simpa using qE
    have HK:Hid (plc l id = plcF id (l.drop (k + 1)) (k + 1)):=by have:=U HP; rw [if_neg qE] at this; exact this
    clear qE
    go_wp2_with fail
    go_roundw
    case rel=>exact ⟨k + 1,by omega,by go_num,U HK,U HB⟩
    case measure=>simp [intOf]; omega
  ·have HK:Hid (plc l id = -1):=by
    have h:=U jZ
    rw [xa (by omega)] at h
    exact h
   go_wp2_with fail
   go_ret
   exact ⟨zp (U HK).symm,U HB⟩
theorem bitsS_any (x:Nat) (w:World) :
  Calls Tryz.prog 71 #[yj x] w fun e w'=>e = ym (.int .u64 (fbit x))∧w' = w:=by
 have L:=fbits
 cases h:nanB x with
 | true =>
  have HF:=Y (show fbit x = 9221120237041090560 from if_pos h)
  have h':(FloatKind.f64.format.order x x != some Ordering.eq) = true:=h
  clear h
  go_enter Tryz.func71,Tryz.ntmps71
  go_wp2
  go_ret
  exact ⟨zp (by rw [U HF]; rfl),rfl⟩
 | false =>
  have HF:=Y (show fbit x = x from if_neg (by rw [h]; decide))
  have h':(FloatKind.f64.format.order x x != some Ordering.eq) = false:=h
  clear h
  go_enter Tryz.func71,Tryz.ntmps71
  go_wp2
  go_ret
  exact ⟨zp (by rw [U HF]),rfl⟩
theorem l04Zero_any (x:Nat) (w:World) :
  Calls Tryz.prog 42 #[yj x] w fun e w'=>e = ym (.bool (decide (fbit x = 0)))∧w' = w:=by
 have HL:=Y (fun w=>bitsS_any x w)
 generalize fbit x = u at *
 have hdec:decide (u = 0) = (((u:Nat):Int) == 0):=by
  by_cases h:u = 0 <;> simp [h]
 go_enter Tryz.func42,Tryz.ntmps42
 go_wp2_with fail
 refine (U HL _).mono ?_
 rintro e w' ⟨rfl,rfl⟩
 have HD:=Y hdec
 clear hdec
 go_wp2_with fail
 go_ret
 exact ⟨zy (U HD).symm,rfl⟩
theorem cY (next:Int) (a:Option Addr) (n A:Nat) (c:Cm) (w:World) :
  Calls Tryz.prog 46 #[.agg #[H next,.slice a n A],cmV c] w fun e w'=>e = ym (.agg (yv next c.s (tkS c.p) c.q c.l c.g).toArray)∧yn w w':=by
 obtain ⟨k,s,t,l,q,i,p,g⟩:=c
 unfold cmV
 simp only
 have HT:=Y (fun W=>l01Ticks_any p W)
 generalize tkS p = tt at HT ⊢
 generalize tkOk p = tb at HT
 go_enter Tryz.func46,Tryz.ntmps46
 go_wp2_with fail
 refine (U HT _).mono ?_
 rintro e w' ⟨rfl,rfl⟩
 go_wp2_with fail
 go_returns
 exact ⟨rfl,by go_grown⟩
def aK (c:Cm):Bool :=
 if c.k = 1 then (c.i == 0) else if c.s ≠ 0 ∨ c.t ≠ 0 ∨ c.l ≠ 0 ∨ fbit c.p ≠ 0 ∨ c.g.toList.isEmpty = false then false else ((c.k == 3) || (c.q == 0)) && ((c.k != 4) || (c.i == 0))
theorem l04Form_any (c:Cm) (w:World) :
  Calls Tryz.prog 24 #[cmV c] w fun e w'=>e = ym (.bool (aK c))∧yn w w':=by
 obtain ⟨k,s,t,l,q,i,p,g⟩:=c
 unfold cmV
 simp only
 by_cases Q:k = 1
 ·subst Q
  have HK:Hid (aK ⟨1,s,t,l,q,i,p,g⟩ = (i == 0)):=by show _ = _; simp [aK]
  go_enter Tryz.func24,Tryz.ntmps24
  go_wp2_with fail
  go_ret
  exact ⟨zy (U HK).symm,by go_grown⟩
 have b1:(k == 1) = false:=by rw [xd]; exact Q
 by_cases hs:s = 0
 ·subst hs
  by_cases ht:t = 0
  ·subst ht
   by_cases hl:l = 0
   ·subst hl
    have HZ:=Y (fun W=>l04Zero_any p W)
    have HFI:Hid (∀ z:Bool,decide (fbit p = 0) = z→aK ⟨k,0,0,0,q,i,p,g⟩ = if z = true then (if g.toList.isEmpty = false then false else ((k == 3) || (q == 0)) && ((k != 4) || (i == 0))) else false):=by
     intro z hz
     subst hz
     by_cases hp:fbit p = 0 <;> simp [aK,Q,hp]
    have HFJ:=Y (U HFI _ rfl)
    generalize decide (fbit p = 0) = z at HZ HFJ
    clear HFI Q
    go_enter Tryz.func24,Tryz.ntmps24
    go_wp2_with fail
    refine (U HZ _).mono ?_
    rintro e w' ⟨rfl,rfl⟩
    cases z
    ·have HK:Hid (aK ⟨k,0,0,0,q,i,p,g⟩ = false):=U HFJ
     go_wp2_with fail
     go_ret
     exact ⟨zy (U HK).symm,by go_grown⟩
    ·have pY:Hid (aK ⟨k,0,0,0,q,i,p,g⟩ = if g.toList.isEmpty = false then false else ((k == 3) || (q == 0)) && ((k != 4) || (i == 0))):=by
      show _ = _
      have:=U HFJ
      simpa using this
     clear HFJ HZ
     cases hg:g.toList.isEmpty
     ·have bg:(!g.toList.isEmpty) = true:=by rw [hg]; rfl
      have HK:Hid (aK ⟨k,0,0,0,q,i,p,g⟩ = false):=(U pY).trans (if_pos hg)
      clear hg
      go_wp2_with fail
      go_ret
      exact ⟨zy (U HK).symm,by go_grown⟩
     have bg:(!g.toList.isEmpty) = false:=by rw [hg]; rfl
     have HFL:Hid (aK ⟨k,0,0,0,q,i,p,g⟩ = (((k == 3) || (q == 0)) && ((k != 4) || (i == 0)))):=(U pY).trans (if_neg (by rw [hg]; simp))
     clear hg pY
     by_cases h3:k = 3
     ·subst h3
      have HK:Hid (aK ⟨3,0,0,0,q,i,p,g⟩ = true):=(U HFL).trans (by simp)
      go_wp2_with fail
      go_ret
      exact ⟨zy (U HK).symm,by go_grown⟩
     have b3:(k == 3) = false:=by rw [xd]; exact h3
     by_cases hq:q = 0
     ·subst hq
      by_cases h4:k = 4
      ·subst h4
       have HK:Hid (aK ⟨4,0,0,0,0,i,p,g⟩ = (i == 0)):=(U HFL).trans (by simp)
       clear h3
       go_wp2_with fail
       go_ret
       exact ⟨zy (U HK).symm,by go_grown⟩
      ·have b4:(k != 4) = true:=by simpa using h4
       have HK:Hid (aK ⟨k,0,0,0,0,i,p,g⟩ = true):=(U HFL).trans (by simp [h4])
       clear h3 h4
       go_wp2_with fail
       go_ret
       exact ⟨zy (U HK).symm,by go_grown⟩
     ·have bq:(q == 0) = false:=by rw [xd]; exact hq
      have HK:Hid (aK ⟨k,0,0,0,q,i,p,g⟩ = false):=(U HFL).trans (by simp [h3,hq])
      clear h3 hq
      go_wp2_with fail
      go_ret
      exact ⟨zy (U HK).symm,by go_grown⟩
   ·have HK:Hid (aK ⟨k,0,0,l,q,i,p,g⟩ = false):=by show _ = _; simp [aK,Q,hl]
    have bl:(l != 0) = true:=by simpa using hl
    clear Q hl
    go_enter Tryz.func24,Tryz.ntmps24
    go_wp2_with fail
    go_ret
    exact ⟨zy (U HK).symm,by go_grown⟩
  ·have HK:Hid (aK ⟨k,0,t,l,q,i,p,g⟩ = false):=by show _ = _; simp [aK,Q,ht]
   have bl:(t != 0) = true:=by simpa using ht
   clear Q ht
   go_enter Tryz.func24,Tryz.ntmps24
   go_wp2_with fail
   go_ret
   exact ⟨zy (U HK).symm,by go_grown⟩
 ·have HK:Hid (aK ⟨k,s,t,l,q,i,p,g⟩ = false):=by show _ = _; simp [aK,Q,hs]
  have bl:(s != 0) = true:=by simpa using hs
  clear Q hs
  go_enter Tryz.func24,Tryz.ntmps24
  go_wp2_with fail
  go_ret
  exact ⟨zy (U HK).symm,by go_grown⟩
end Go.Proofs.YtdliebbfcmdmaaaGreat
namespace Go.Proofs.YtdliebbfcmdmaaaGreat
open Go Ieee

theorem read_place {x:Nat} {s:Bool} {m:Nat} {i:Int} (h:double.read x = .number s m i):-1074 ≤ i:=by
 unfold Format.read at h
 simp only [bin,inf,sw,lp] at h
 split at h
 ·simp only [Datum.number.injEq] at h; omega
 ·split at h
  ·simp only [Datum.number.injEq] at h; omega
  ·split at h <;> cases h
theorem cut_pos {n drop:Nat} (h:2 ^ drop ≤ n):0 < Toward.even.cut false n drop:=by
 unfold Toward.cut
 simp only
 have hg:1 <<< min drop (n.log2 + 2) ≤ n:=by
  rw [Nat.one_shiftLeft]
  exact yN (Nat.pow_le_pow_right (by decide) (Nat.min_le_left _ _)) h
 have hp:0 < 1 <<< min drop (n.log2 + 2):=by rw [Nat.one_shiftLeft]; exact Nat.two_pow_pos _
 have:=Nat.div_pos hg hp
 omega
theorem near_pos {m:Nat} {i:Int} (hm:m ≠ 0) (hi:-1074 ≤ i):0 < double.nearest false (m * 4503599627370496) (i + -50):=by
 have hmag:¬ m * 4503599627370496 = 0:=by omega
 have hlog:=log_up hm
 have N:2 ^ (m.log2 + 52) ≤ m * 4503599627370496:=by
  have h:=((Nat.log2_eq_iff hm).1 rfl).1
  rw [Nat.pow_add,show (2:Nat) ^ 52 = 4503599627370496 from rfl]
  exact Nat.mul_le_mul_right _ h
 unfold Format.nearest
 rw [if_neg hmag]
 simp only [hlog,fb,lp,bin,inf,Format.word,Bool.false_eq_true,if_false]
 have hlast:i + -50 + ((m.log2 + 52:Nat):Int) - (52:Nat) ≤ max (i + -50 + ((m.log2 + 52:Nat):Int) - (52:Nat)) (-1074):=Int.le_max_left _ _
 have hup:max (i + -50 + ((m.log2 + 52:Nat):Int) - (52:Nat)) (-1074) ≤ i + -50 + ((m.log2 + 52:Nat):Int):=Int.max_le.2 ⟨by omega,by omega⟩
 generalize max (i + -50 + ((m.log2 + 52:Nat):Int) - (52:Nat)) (-1074) = last at *
 have e0:(i + -50 - last).toNat = 0:=by omega
 rw [e0,Nat.shiftLeft_zero]
 have hc:=cut_pos (n:=m * 4503599627370496) (drop:=(last - (i + -50)).toNat) (yN (Nat.pow_le_pow_right (by decide) (by omega)) N)
 generalize Toward.even.cut false (m * 4503599627370496) (last - (i + -50)).toNat = kept at *
 omega
theorem four_pos {x r:Nat} (h0:double.order x 0 = some .gt) (Q:double.order x 4687829947429945344 = some .lt ∨ double.order x 4687829947429945344 = some .eq) (hr:double.mul x 4616189618054758400 = some r):double.order 0 r ≠ some .eq:=by
 rcases above_zero h0 with hx | ⟨m,i,hx,hm⟩
 ·exfalso
  unfold Format.order at Q
  rw [hx,read_top] at Q
  simp [Datum.order] at Q
 ·have hw:=within hx hm Q
  have jx:double.mul x 4616189618054758400 = some (double.nearest false (m * 4503599627370496) (i + -50)):=by
   unfold Format.mul
   rw [hx,read_four]
   rfl
  rw [jx] at hr
  have hr:=Option.some.inj hr
  have jy:=near_pos hm (read_place hx)
  have xK:=near_le hm hw
  rw [hr] at jy xK
  clear hr jx
  have hneg:(r / 9223372036854775808 % 2 == 1) = false:=by simp; omega
  have vf:r % 9223372036854775808 = r:=by omega
  obtain ⟨m',i',e,hm'⟩:∃ m' i',double.read r = .number false m' i'∧m' ≠ 0:=by
   unfold Format.read
   simp only [bin,inf,sw,hneg,vf,lp]
   split
   ·exact ⟨_,_,rfl,by omega⟩
   ·rw [if_pos (by omega)]
    exact ⟨_,_,rfl,by omega⟩
  unfold Format.order
  rw [read_zero,e]
  simp only [Datum.order,ne_eq,Option.some.injEq]
  intro h
  have h:=Std.LawfulEqCmp.eq_of_compare h
  simp only [signed,Bool.false_eq_true,if_false,Nat.shiftLeft_eq,Nat.zero_mul] at h
  have xB:m' * 2 ^ (i' - min (-1074) i').toNat ≠ 0:=Nat.mul_ne_zero hm' (Nat.pos_iff_ne_zero.1 (Nat.two_pow_pos _))
  omega
end Go.Proofs.YtdliebbfcmdmaaaGreat
namespace Go.Proofs.YtdliebbfcmdmaaaGreat
open Go.RowKit
theorem float_nought:floatOfInt .f64 0 = 0:=by decide
theorem tkS_pos {x:Nat} (h:tkOk x = true):tkS x ≠ 0:=by
 rw [tkS_ok h]
 unfold tk
 rw [if_pos h]
 unfold tkOk at h
 simp only [xe,Bool.or_eq_true,beq_iff_eq] at h
 obtain ⟨⟨h0,Q⟩,N⟩:=h
 intro e
 rw [e,float_nought] at N
 obtain ⟨r,n,hm,_⟩:=price_four h0 Q
 have hr:tkR x = r:=by
  unfold tkR
  rw [show FloatKind.f64.format.mul x 4616189618054758400 = some r from hm]
  rfl
 rw [hr] at N
 exact four_pos h0 Q hm N
theorem fbit_zero {x:Nat} (h:fbit x = 0):x = 0:=by
 unfold fbit at h
 split at h
 ·omega
 ·exact h
theorem tkS_zero {x:Nat} (h:fbit x = 0):tkS x = 0:=by
 rw [fbit_zero h]
 decide
theorem side_of {s:Int} (h:betB s 1 2 = true):s = 1 ∨ s = 2:=by
 simp [betB] at h; omega
theorem oth_of {s:Int} (h:s = 1 ∨ s = 2):3 - s = othS s:=by
 rcases h with rfl | rfl <;> rfl
theorem cross_meet {c:Cm} (hp:prcB c = true) (o:Od):bm c.s (tkS c.p) o = aO c o:=by
 unfold prcB at hp
 by_cases N:c.t = 2
 ·rw [if_pos N] at hp
  rw [tkS_zero (of_decide_eq_true hp),bm,if_pos rfl,aO,if_pos N]
 ·rw [if_neg N] at hp
  rw [bm,if_neg (tkS_pos hp),aO,if_neg N,tkS_ok hp]
def NexS (l:List Od) (t:Od) (k:Int):Prop :=
 (k = -1∧(t.left = 0 ∨ aJ l (othS t.side) = none ∨ ∃ o,aJ l (othS t.side) = some o∧bm t.side t.ticks o = false)) ∨
 ∃ (i:Nat) (o:Od),k = i∧i < l.length∧l[i]? = some o∧aJ l (othS t.side) = some o∧bm t.side t.ticks o = true∧t.left ≠ 0
theorem front_pre {l:List Od} {sd k:Int} (hr:ba l) (h:FrPre l sd l.length k):(k = -1∧aJ l sd = none) ∨ ∃ (i:Nat) (o:Od),k = i∧i < l.length∧l[i]? = some o∧aJ l sd = some o:=by
 rcases frPre_end h with ⟨rfl,ja⟩ | ⟨i,o,rfl,hi,hfo⟩
 ·refine .inl ⟨rfl,?_⟩
  rcases front_head (s:=decide (sd = 1)) (sd:=sd) hr with ⟨Q,_⟩ | ⟨j,o',Q,hf'⟩
  ·exact Q
  ·exact absurd hf'.2.1 (ja o' (yO hf'.1))
 ·refine .inr ⟨i,o,rfl,hi,hfo.1,?_⟩
  rcases front_head (s:=decide (sd = 1)) (sd:=sd) hr with ⟨_,ja⟩ | ⟨j,o',Q,hf'⟩
  ·exact absurd hfo.2.1 (ja o (yO hfo.1))
  ·rw [aJ,Q,(front_unique hf' hfo).2]
end Go.Proofs.YtdliebbfcmdmaaaGreat
