/-
  The small functions of the model's matching: proved by walking them.
-/
import Derived.Test.YtopjoogdpjaocaaGreatTj25
set_option linter.unusedVariables false
set_option maxHeartbeats 6400000
set_option maxRecDepth 100000
namespace Go.Proofs.YtopjoogdpjaocaaGreat
open Go.RowKit
set_option maxHeartbeats 400000 in
theorem zaZ (t:Int) (w:World) :
  Calls Tryz.prog 40 #[.int .i64 t] w fun e w'=>e = .returned (.bool (zaJ t))∧w' = w:=by
 by_cases h1:t = 1
 ·subst h1
  go_enter Tryz.func40,Tryz.ntmps40
  go_wp2_with fail
  go_ret
  exact ⟨rfl,rfl⟩
 have b1:(t == 1) = false:=by rw [beq_eq_false_iff_ne]; exact h1
 have HK:Hid (zaJ t = (t == 5)):=by
  show _ = _
  by_cases h5:t = 5 <;> simp [zaJ,h1,h5]
 clear h1
 go_enter Tryz.func40,Tryz.ntmps40
 go_wp2_with fail
 go_ret
 exact ⟨zy (za HK).symm,rfl⟩
def zbt (sd tk:Int) (o:Od):Bool:=if tk = 0 then true else if sd = 1 then decide (o.ticks ≤ tk) else decide (tk ≤ o.ticks)
set_option maxHeartbeats 400000 in
theorem l04Crosses_any (sd tk:Int) (o:Od) (w:World) :
  Calls Tryz.prog 84 #[.int .i64 sd,.int .i64 tk,.agg #[.int .i64 o.id,.int .i64 o.side,.int .i64 o.ticks,.int .i64 o.left,.int .i64 o.life,.string o.tag]] w fun e w'=>e = .returned (.bool (zbt sd tk o))∧Below w.heap.size w w':=by
 obtain ⟨id,side,ticks,left,life,tag⟩:=o
 simp only
 by_cases h0:tk = 0
 ·subst h0
  go_enter Tryz.func84,Tryz.ntmps84
  go_wp2_with fail
  go_ret
  exact ⟨rfl,by go_grown⟩
 have b0:(tk == 0) = false:=by rw [beq_eq_false_iff_ne]; exact h0
 by_cases h1:sd = 1
 ·subst h1
  have HK:Hid (zbt 1 tk ⟨id,side,ticks,left,life,tag⟩ = decide (ticks ≤ tk)):=by show _ = _; simp [zbt,h0]
  clear h0
  go_enter Tryz.func84,Tryz.ntmps84
  go_wp2_with fail
  go_ret
  exact ⟨zy (za HK).symm,by go_grown⟩
 have b1:(sd == 1) = false:=by rw [beq_eq_false_iff_ne]; exact h1
 have HK:Hid (zbt sd tk ⟨id,side,ticks,left,life,tag⟩ = decide (tk ≤ ticks)):=by show _ = _; simp [zbt,h0,h1]
 clear h0 h1
 go_enter Tryz.func84,Tryz.ntmps84
 go_wp2_with fail
 go_ret
 exact ⟨zy (za HK).symm,by go_grown⟩
set_option maxRecDepth 100000 in
set_option maxHeartbeats 800000 in
theorem zaU (v:Value) (l:List Od) (id:Int) (w:World) (hr:RdR Od.vs 6 w v l) :
  Calls Tryz.prog 35 #[v,.int .i64 id] w fun e w'=>e = .returned (.int .i64 (plc l id))∧Below w.heap.size w w':=by
 obtain ⟨a,cap,rfl,hlen,hc⟩:=hr
 have hcell:∀ (k:Nat) (c:Od),l[k]? = some c→∃ b off,a = some ⟨b,off,none⟩∧b < w.heap.size∧w.rangeAt b (off + k * 6) c.vs:=by
  intro k c hk
  obtain ⟨b,off,h1,h2,h3⟩:=hc (by intro h; rw [h] at hk; simp at hk)
  exact ⟨b,off,h1,h2,h3 k c hk⟩
 have HC:=hide hcell
 clear hcell hc
 go_enter Tryz.func35,Tryz.ntmps35
 go_wp2_with fail
 go_loopw [5] (fun iv wr=>∃ (k:Nat),k ≤ l.length∧iv = .int .i64 k∧Hid (plc l id = plcF id (l.drop k) k)∧Below w.heap.size w wr) (fun iv _=>l.length - (intOf iv).toNat)
 case atStart=>exact ⟨0,Nat.zero_le _,rfl,rfl,Below.refl _ _⟩
 case round =>
  obtain ⟨k,hk,rfl,hpl,hbel⟩:=hrel
  have HB:=hide hbel
  clear hbel
  by_cases hlt:k < l.length
  ·obtain ⟨c,hkc⟩:∃ c,l[k]? = some c:=⟨_,List.getElem?_eq_getElem hlt⟩
   have HP:Hid (plc l id = if c.id = id then (k:Int) else plcF id (l.drop (k + 1)) (k + 1)):=by
    have:=za hpl
    rw [drop_get hkc] at this
    exact this
   obtain ⟨b,off,rfl,hb,hcl⟩:=za HC k c hkc
   obtain ⟨g0,g1,g2,g3,g4,g5⟩:=zD (zb hcl (za HB) hb)
   have hlt':(k:Int) < l.length:=by omega
   clear hkc hcl hb hpl
   by_cases hid:c.id = id
   ·have hb:(c.id == id) = true:=by simpa using hid
    have HK:Hid (plc l id = k):=by have:=za HP; rw [if_pos hid] at this; exact this
    clear hid
    go_wp2_with fail
    go_ret
    exact ⟨zr (za HK).symm,za HB⟩
   ·have hb:(c.id == id) = false:=by simpa using hid
    have HK:Hid (plc l id = plcF id (l.drop (k + 1)) (k + 1)):=by have:=za HP; rw [if_neg hid] at this; exact this
    clear hid
    go_wp2_with fail
    go_roundw
    case rel=>exact ⟨k + 1,by omega,by go_num,za HK,za HB⟩
    case measure=>simp [intOf]; omega
  ·have HK:Hid (plc l id = -1):=by
    have h:=za hpl
    rw [List.drop_of_length_le (by omega)] at h
    exact h
   go_wp2_with fail
   go_ret
   exact ⟨zr (za HK).symm,za HB⟩
theorem bitsS_any (x:Nat) (w:World) :
  Calls Tryz.prog 43 #[.float .f64 x] w fun e w'=>e = .returned (.int .u64 (fbit x))∧w' = w:=by
 have hb:=fbits
 cases h:nanB x with
 | true =>
  have HF:=hide (show fbit x = 9221120237041090560 from if_pos h)
  have h':(FloatKind.f64.format.order x x != some Ordering.eq) = true:=h
  clear h
  go_enter Tryz.func43,Tryz.ntmps43
  go_wp2
  go_ret
  exact ⟨zr (by rw [za HF]; rfl),rfl⟩
 | false =>
  have HF:=hide (show fbit x = x from if_neg (by rw [h]; decide))
  have h':(FloatKind.f64.format.order x x != some Ordering.eq) = false:=h
  clear h
  go_enter Tryz.func43,Tryz.ntmps43
  go_wp2
  go_ret
  exact ⟨zr (by rw [za HF]),rfl⟩
theorem l04Zero_any (x:Nat) (w:World) :
  Calls Tryz.prog 80 #[.float .f64 x] w fun e w'=>e = .returned (.bool (decide (fbit x = 0)))∧w' = w:=by
 have HL:=hide (fun w=>bitsS_any x w)
 generalize fbit x = u at *
 have hdec:decide (u = 0) = (((u:Nat):Int) == 0):=by
  by_cases h:u = 0 <;> simp [h]
 go_enter Tryz.func80,Tryz.ntmps80
 go_wp2_with fail
 refine (za HL _).mono ?_
 rintro e w' ⟨rfl,rfl⟩
 have HD:=hide hdec
 clear hdec
 go_wp2_with fail
 go_ret
 exact ⟨zy (za HD).symm,rfl⟩
set_option maxRecDepth 100000 in
set_option maxHeartbeats 800000 in
theorem zaI (next:Int) (a:Option Addr) (n cap:Nat) (c:Cm) (w:World) :
  Calls Tryz.prog 39 #[.agg #[.int .i64 next,.slice a n cap],cmV c] w fun e w'=>e = .returned (.agg #[.int .i64 next,.int .i64 c.s,.int .i64 (tkS c.p),.int .i64 c.q,.int .i64 c.l,.string c.g])∧Below w.heap.size w w':=by
 obtain ⟨k,s,t,l,q,i,p,g⟩:=c
 unfold cmV
 simp only
 have HT:=hide (fun W=>l01Ticks_any p W)
 generalize tkS p = tt at HT ⊢
 generalize tkOk p = tb at HT
 go_enter Tryz.func39,Tryz.ntmps39
 go_wp2_with fail
 refine (za HT _).mono ?_
 rintro e w' ⟨rfl,rfl⟩
 go_wp2_with fail
 go_returns
 exact ⟨rfl,by go_grown⟩
def zaT (c:Cm):Bool :=
 if c.k = 1 then (c.i == 0) else if c.s ≠ 0 ∨ c.t ≠ 0 ∨ c.l ≠ 0 ∨ fbit c.p ≠ 0 ∨ c.g.toList.isEmpty = false then false else ((c.k == 3) || (c.q == 0)) && ((c.k != 4) || (c.i == 0))
set_option maxRecDepth 100000 in
set_option maxHeartbeats 800000 in
theorem l04Form_any (c:Cm) (w:World) :
  Calls Tryz.prog 57 #[cmV c] w fun e w'=>e = .returned (.bool (zaT c))∧Below w.heap.size w w':=by
 obtain ⟨k,s,t,l,q,i,p,g⟩:=c
 unfold cmV
 simp only
 by_cases h1:k = 1
 ·subst h1
  have HK:Hid (zaT ⟨1,s,t,l,q,i,p,g⟩ = (i == 0)):=by show _ = _; simp [zaT]
  go_enter Tryz.func57,Tryz.ntmps57
  go_wp2_with fail
  go_ret
  exact ⟨zy (za HK).symm,by go_grown⟩
 have b1:(k == 1) = false:=by rw [beq_eq_false_iff_ne]; exact h1
 by_cases hs:s = 0
 ·subst hs
  by_cases ht:t = 0
  ·subst ht
   by_cases hl:l = 0
   ·subst hl
    have HZ:=hide (fun W=>l04Zero_any p W)
    have HFI:Hid (∀ z:Bool,decide (fbit p = 0) = z→zaT ⟨k,0,0,0,q,i,p,g⟩ = if z = true then (if g.toList.isEmpty = false then false else ((k == 3) || (q == 0)) && ((k != 4) || (i == 0))) else false):=by
     intro z hz
     subst hz
     by_cases hp:fbit p = 0 <;> simp [zaT,h1,hp]
    have HFJ:=hide (za HFI _ rfl)
    generalize decide (fbit p = 0) = z at HZ HFJ
    clear HFI h1
    go_enter Tryz.func57,Tryz.ntmps57
    go_wp2_with fail
    refine (za HZ _).mono ?_
    rintro e w' ⟨rfl,rfl⟩
    cases z
    ·have HK:Hid (zaT ⟨k,0,0,0,q,i,p,g⟩ = false):=za HFJ
     go_wp2_with fail
     go_ret
     exact ⟨zy (za HK).symm,by go_grown⟩
    ·have HFK:Hid (zaT ⟨k,0,0,0,q,i,p,g⟩ = if g.toList.isEmpty = false then false else ((k == 3) || (q == 0)) && ((k != 4) || (i == 0))):=by
      show _ = _
      have:=za HFJ
      simpa using this
     clear HFJ HZ
     cases hg:g.toList.isEmpty
     ·have bg:(!g.toList.isEmpty) = true:=by rw [hg]; rfl
      have HK:Hid (zaT ⟨k,0,0,0,q,i,p,g⟩ = false):=(za HFK).trans (if_pos hg)
      clear hg
      go_wp2_with fail
      go_ret
      exact ⟨zy (za HK).symm,by go_grown⟩
     have bg:(!g.toList.isEmpty) = false:=by rw [hg]; rfl
     have HFL:Hid (zaT ⟨k,0,0,0,q,i,p,g⟩ = (((k == 3) || (q == 0)) && ((k != 4) || (i == 0)))):=(za HFK).trans (if_neg (by rw [hg]; simp))
     clear hg HFK
     by_cases h3:k = 3
     ·subst h3
      have HK:Hid (zaT ⟨3,0,0,0,q,i,p,g⟩ = true):=(za HFL).trans (by simp)
      go_wp2_with fail
      go_ret
      exact ⟨zy (za HK).symm,by go_grown⟩
     have b3:(k == 3) = false:=by rw [beq_eq_false_iff_ne]; exact h3
     by_cases hq:q = 0
     ·subst hq
      by_cases h4:k = 4
      ·subst h4
       have HK:Hid (zaT ⟨4,0,0,0,0,i,p,g⟩ = (i == 0)):=(za HFL).trans (by simp)
       clear h3
       go_wp2_with fail
       go_ret
       exact ⟨zy (za HK).symm,by go_grown⟩
      ·have b4:(k != 4) = true:=by simpa using h4
       have HK:Hid (zaT ⟨k,0,0,0,0,i,p,g⟩ = true):=(za HFL).trans (by simp [h4])
       clear h3 h4
       go_wp2_with fail
       go_ret
       exact ⟨zy (za HK).symm,by go_grown⟩
     ·have bq:(q == 0) = false:=by rw [beq_eq_false_iff_ne]; exact hq
      have HK:Hid (zaT ⟨k,0,0,0,q,i,p,g⟩ = false):=(za HFL).trans (by simp [h3,hq])
      clear h3 hq
      go_wp2_with fail
      go_ret
      exact ⟨zy (za HK).symm,by go_grown⟩
   ·have HK:Hid (zaT ⟨k,0,0,l,q,i,p,g⟩ = false):=by show _ = _; simp [zaT,h1,hl]
    have bl:(l != 0) = true:=by simpa using hl
    clear h1 hl
    go_enter Tryz.func57,Tryz.ntmps57
    go_wp2_with fail
    go_ret
    exact ⟨zy (za HK).symm,by go_grown⟩
  ·have HK:Hid (zaT ⟨k,0,t,l,q,i,p,g⟩ = false):=by show _ = _; simp [zaT,h1,ht]
   have bl:(t != 0) = true:=by simpa using ht
   clear h1 ht
   go_enter Tryz.func57,Tryz.ntmps57
   go_wp2_with fail
   go_ret
   exact ⟨zy (za HK).symm,by go_grown⟩
 ·have HK:Hid (zaT ⟨k,s,t,l,q,i,p,g⟩ = false):=by show _ = _; simp [zaT,h1,hs]
  have bl:(s != 0) = true:=by simpa using hs
  clear h1 hs
  go_enter Tryz.func57,Tryz.ntmps57
  go_wp2_with fail
  go_ret
  exact ⟨zy (za HK).symm,by go_grown⟩
end Go.Proofs.YtopjoogdpjaocaaGreat
namespace Go.Proofs.YtopjoogdpjaocaaGreat
open Go Ieee

theorem read_place {x:Nat} {s:Bool} {m:Nat} {i:Int} (h:double.read x = .number s m i):-1074 ≤ i:=by
 unfold Format.read at h
 simp only [bin,inf,sw,lp] at h
 split at h
 ·simp only [Datum.number.injEq] at h; omega
 ·split at h
  ·simp only [Datum.number.injEq] at h; omega
  ·split at h <;> cases h
theorem cut_pos {n drop:Nat} (h:2 ^ drop ≤ n):0 < Toward.even.cut false n drop:=by
 unfold Toward.cut
 simp only
 have hg:1 <<< min drop (n.log2 + 2) ≤ n:=by
  rw [Nat.one_shiftLeft]
  exact Nat.le_trans (Nat.pow_le_pow_right (by decide) (Nat.min_le_left _ _)) h
 have hp:0 < 1 <<< min drop (n.log2 + 2):=by rw [Nat.one_shiftLeft]; exact Nat.two_pow_pos _
 have:=Nat.div_pos hg hp
 omega
theorem near_pos {m:Nat} {i:Int} (hm:m ≠ 0) (hi:-1074 ≤ i):0 < double.nearest false (m * 4503599627370496) (i + -50):=by
 have hmag:¬ m * 4503599627370496 = 0:=by omega
 have hlog:=log_up hm
 have h2:2 ^ (m.log2 + 52) ≤ m * 4503599627370496:=by
  have h:=((Nat.log2_eq_iff hm).1 rfl).1
  rw [Nat.pow_add,show (2:Nat) ^ 52 = 4503599627370496 from rfl]
  exact Nat.mul_le_mul_right _ h
 unfold Format.nearest
 rw [if_neg hmag]
 simp only [hlog,fb,lp,bin,inf,Format.word,Bool.false_eq_true,if_false]
 have hlast:i + -50 + ((m.log2 + 52:Nat):Int) - (52:Nat) ≤ max (i + -50 + ((m.log2 + 52:Nat):Int) - (52:Nat)) (-1074):=Int.le_max_left _ _
 have hup:max (i + -50 + ((m.log2 + 52:Nat):Int) - (52:Nat)) (-1074) ≤ i + -50 + ((m.log2 + 52:Nat):Int):=Int.max_le.2 ⟨by omega,by omega⟩
 generalize max (i + -50 + ((m.log2 + 52:Nat):Int) - (52:Nat)) (-1074) = last at *
 have e0:(i + -50 - last).toNat = 0:=by omega
 rw [e0,Nat.shiftLeft_zero]
 have hc:=cut_pos (n:=m * 4503599627370496) (drop:=(last - (i + -50)).toNat) (Nat.le_trans (Nat.pow_le_pow_right (by decide) (by omega)) h2)
 generalize Toward.even.cut false (m * 4503599627370496) (last - (i + -50)).toNat = kept at *
 omega
theorem four_pos {x r:Nat} (h0:double.order x 0 = some .gt) (h1:double.order x 4687829947429945344 = some .lt ∨ double.order x 4687829947429945344 = some .eq) (hr:double.mul x 4616189618054758400 = some r):double.order 0 r ≠ some .eq:=by
 rcases above_zero h0 with hx | ⟨m,i,hx,hm⟩
 ·exfalso
  unfold Format.order at h1
  rw [hx,read_top] at h1
  simp [Datum.order] at h1
 ·have hw:=within hx hm h1
  have hmul:double.mul x 4616189618054758400 = some (double.nearest false (m * 4503599627370496) (i + -50)):=by
   unfold Format.mul
   rw [hx,read_four]
   rfl
  rw [hmul] at hr
  have hr:=Option.some.inj hr
  have hpos:=near_pos hm (read_place hx)
  have hlt:=near_le hm hw
  rw [hr] at hpos hlt
  clear hr hmul
  have hneg:(r / 9223372036854775808 % 2 == 1) = false:=by simp; omega
  have hrr:r % 9223372036854775808 = r:=by omega
  obtain ⟨m',i',e,hm'⟩:∃ m' i',double.read r = .number false m' i'∧m' ≠ 0:=by
   unfold Format.read
   simp only [bin,inf,sw,hneg,hrr,lp]
   split
   ·exact ⟨_,_,rfl,by omega⟩
   ·rw [if_pos (by omega)]
    exact ⟨_,_,rfl,by omega⟩
  unfold Format.order
  rw [read_zero,e]
  simp only [Datum.order,ne_eq,Option.some.injEq]
  intro h
  have h:=Std.LawfulEqCmp.eq_of_compare h
  simp only [signed,Bool.false_eq_true,if_false,Nat.shiftLeft_eq,Nat.zero_mul] at h
  have hne:m' * 2 ^ (i' - min (-1074) i').toNat ≠ 0:=Nat.mul_ne_zero hm' (Nat.pos_iff_ne_zero.1 (Nat.two_pow_pos _))
  omega
end Go.Proofs.YtopjoogdpjaocaaGreat
namespace Go.Proofs.YtopjoogdpjaocaaGreat
open Go.RowKit
theorem float_nought:floatOfInt .f64 0 = 0:=by decide
theorem tkS_pos {x:Nat} (h:tkOk x = true):tkS x ≠ 0:=by
 rw [tkS_ok h]
 unfold tk
 rw [if_pos h]
 unfold tkOk at h
 simp only [Bool.and_eq_true,Bool.or_eq_true,beq_iff_eq] at h
 obtain ⟨⟨h0,h1⟩,h2⟩:=h
 intro e
 rw [e,float_nought] at h2
 obtain ⟨r,n,hm,_⟩:=price_four h0 h1
 have hr:tkR x = r:=by
  unfold tkR
  rw [show FloatKind.f64.format.mul x 4616189618054758400 = some r from hm]
  rfl
 rw [hr] at h2
 exact four_pos h0 h1 hm h2
theorem fbit_zero {x:Nat} (h:fbit x = 0):x = 0:=by
 unfold fbit at h
 split at h
 ·omega
 ·exact h
theorem tkS_zero {x:Nat} (h:fbit x = 0):tkS x = 0:=by
 rw [fbit_zero h]
 decide
theorem side_of {s:Int} (h:betB s 1 2 = true):s = 1 ∨ s = 2:=by
 simp [betB] at h; omega
theorem oth_of {s:Int} (h:s = 1 ∨ s = 2):3 - s = othS s:=by
 rcases h with rfl | rfl <;> rfl
theorem cross_meet {c:Cm} (hp:prcB c = true) (o:Od):zbt c.s (tkS c.p) o = zcn c o:=by
 unfold prcB at hp
 by_cases h2:c.t = 2
 ·rw [if_pos h2] at hp
  rw [tkS_zero (of_decide_eq_true hp),zbt,if_pos rfl,zcn,if_pos h2]
 ·rw [if_neg h2] at hp
  rw [zbt,if_neg (tkS_pos hp),zcn,if_neg h2,tkS_ok hp]
def NexS (l:List Od) (t:Od) (k:Int):Prop :=
 (k = -1∧(t.left = 0 ∨ zaA l (othS t.side) = none ∨ ∃ o,zaA l (othS t.side) = some o∧zbt t.side t.ticks o = false)) ∨
 ∃ (i:Nat) (o:Od),k = i∧i < l.length∧l[i]? = some o∧zaA l (othS t.side) = some o∧zbt t.side t.ticks o = true∧t.left ≠ 0
theorem front_pre {l:List Od} {sd k:Int} (hr:zbc l) (h:FrPre l sd l.length k):(k = -1∧zaA l sd = none) ∨ ∃ (i:Nat) (o:Od),k = i∧i < l.length∧l[i]? = some o∧zaA l sd = some o:=by
 rcases frPre_end h with ⟨rfl,hno⟩ | ⟨i,o,rfl,hi,hfo⟩
 ·refine .inl ⟨rfl,?_⟩
  rcases front_head (s:=decide (sd = 1)) (sd:=sd) hr with ⟨h1,_⟩ | ⟨j,o',h1,hf'⟩
  ·exact h1
  ·exact absurd hf'.2.1 (hno o' (List.mem_of_getElem? hf'.1))
 ·refine .inr ⟨i,o,rfl,hi,hfo.1,?_⟩
  rcases front_head (s:=decide (sd = 1)) (sd:=sd) hr with ⟨_,hno⟩ | ⟨j,o',h1,hf'⟩
  ·exact absurd hfo.2.1 (hno o (List.mem_of_getElem? hfo.1))
  ·rw [zaA,h1,(front_unique hf' hfo).2]
end Go.Proofs.YtopjoogdpjaocaaGreat
