/-
  The order that a new command brings, by the model: proved by walking the function.
-/
import Derived.Test.YtbakanofkghmiaaGreatQj30
set_option linter.unusedVariables false
set_option maxHeartbeats 6400000
set_option maxRecDepth 100000
namespace Go.Proofs.YtbakanofkghmiaaGreat
open Go.RowKit
theorem dm (next:Int) (a:Option Addr) (n A:Nat) (c:Cm) (w:World) :
  Calls Tryz.prog 90 #[.agg #[H next,.slice a n A],cmV c] w fun e w'=>e = ym (.agg (yw next c.s (tkS c.p) c.q c.l c.g).toArray)∧yn w w':=by
 obtain ⟨k,s,t,l,q,i,p,g⟩:=c
 unfold cmV
 simp only
 have HT:=Y (fun W=>l01Ticks_any p W)
 generalize tkS p = tt at HT ⊢
 generalize tkOk p = tb at HT
 go_enter Tryz.func90,Tryz.ntmps90
 go_wp2_with fail
 refine (U HT _).mono ?_
 rintro e w' ⟨rfl,rfl⟩
 go_wp2_with fail
 go_returns
 exact ⟨rfl,by go_grown⟩
def aR (c:Cm):Bool :=
 if c.k = 1 then (c.i == 0) else if c.s ≠ 0 ∨ c.t ≠ 0 ∨ c.l ≠ 0 ∨ fbit c.p ≠ 0 ∨ c.g.toList.isEmpty = false then false else ((c.k == 3) || (c.q == 0)) && ((c.k != 4) || (c.i == 0))
theorem l04Form_any (c:Cm) (w:World) :
  Calls Tryz.prog 132 #[cmV c] w fun e w'=>e = ym (.bool (aR c))∧yn w w':=by
 obtain ⟨k,s,t,l,q,i,p,g⟩:=c
 unfold cmV
 simp only
 by_cases Q:k = 1
 ·subst Q
  have HK:Hid (aR ⟨1,s,t,l,q,i,p,g⟩ = (i == 0)):=by show _ = _; simp [aR]
  go_enter Tryz.func132,Tryz.ntmps132
  go_wp2_with fail
  go_ret
  exact ⟨zB (U HK).symm,by go_grown⟩
 have b1:(k == 1) = false:=by rw [xe]; exact Q
 by_cases hs:s = 0
 ·subst hs
  by_cases ht:t = 0
  ·subst ht
   by_cases hl:l = 0
   ·subst hl
    have HZ:=Y (fun W=>l04Zero_any p W)
    have HFI:Hid (∀ z:Bool,decide (fbit p = 0) = z→aR ⟨k,0,0,0,q,i,p,g⟩ = if z = true then (if g.toList.isEmpty = false then false else ((k == 3) || (q == 0)) && ((k != 4) || (i == 0))) else false):=by
     intro z hz
     subst hz
     by_cases hp:fbit p = 0 <;> simp [aR,Q,hp]
    have HFJ:=Y (U HFI _ rfl)
    generalize decide (fbit p = 0) = z at HZ HFJ
    clear HFI Q
    go_enter Tryz.func132,Tryz.ntmps132
    go_wp2_with fail
    refine (U HZ _).mono ?_
    rintro e w' ⟨rfl,rfl⟩
    cases z
    ·have HK:Hid (aR ⟨k,0,0,0,q,i,p,g⟩ = false):=U HFJ
     go_wp2_with fail
     go_ret
     exact ⟨zB (U HK).symm,by go_grown⟩
    ·have aj:Hid (aR ⟨k,0,0,0,q,i,p,g⟩ = if g.toList.isEmpty = false then false else ((k == 3) || (q == 0)) && ((k != 4) || (i == 0))):=by
      show _ = _
      have:=U HFJ
      simpa using this
     clear HFJ HZ
     cases hg:g.toList.isEmpty
     ·have bg:(!g.toList.isEmpty) = true:=by rw [hg]; rfl
      have HK:Hid (aR ⟨k,0,0,0,q,i,p,g⟩ = false):=(U aj).trans (if_pos hg)
      clear hg
      go_wp2_with fail
      go_ret
      exact ⟨zB (U HK).symm,by go_grown⟩
     have bg:(!g.toList.isEmpty) = false:=by rw [hg]; rfl
     have HFL:Hid (aR ⟨k,0,0,0,q,i,p,g⟩ = (((k == 3) || (q == 0)) && ((k != 4) || (i == 0)))):=(U aj).trans (if_neg (by rw [hg]; simp))
     clear hg aj
     by_cases h3:k = 3
     ·subst h3
      have HK:Hid (aR ⟨3,0,0,0,q,i,p,g⟩ = true):=(U HFL).trans (by simp)
      go_wp2_with fail
      go_ret
      exact ⟨zB (U HK).symm,by go_grown⟩
     have b3:(k == 3) = false:=by rw [xe]; exact h3
     by_cases hq:q = 0
     ·subst hq
      by_cases h4:k = 4
      ·subst h4
       have HK:Hid (aR ⟨4,0,0,0,0,i,p,g⟩ = (i == 0)):=(U HFL).trans (by simp)
       clear h3
       go_wp2_with fail
       go_ret
       exact ⟨zB (U HK).symm,by go_grown⟩
      ·have b4:(k != 4) = true:=by simpa using h4
       have HK:Hid (aR ⟨k,0,0,0,0,i,p,g⟩ = true):=(U HFL).trans (by simp [h4])
       clear h3 h4
       go_wp2_with fail
       go_ret
       exact ⟨zB (U HK).symm,by go_grown⟩
     ·have bq:(q == 0) = false:=by rw [xe]; exact hq
      have HK:Hid (aR ⟨k,0,0,0,q,i,p,g⟩ = false):=(U HFL).trans (by simp [h3,hq])
      clear h3 hq
      go_wp2_with fail
      go_ret
      exact ⟨zB (U HK).symm,by go_grown⟩
   ·have HK:Hid (aR ⟨k,0,0,l,q,i,p,g⟩ = false):=by show _ = _; simp [aR,Q,hl]
    have bl:(l != 0) = true:=by simpa using hl
    clear Q hl
    go_enter Tryz.func132,Tryz.ntmps132
    go_wp2_with fail
    go_ret
    exact ⟨zB (U HK).symm,by go_grown⟩
  ·have HK:Hid (aR ⟨k,0,t,l,q,i,p,g⟩ = false):=by show _ = _; simp [aR,Q,ht]
   have bl:(t != 0) = true:=by simpa using ht
   clear Q ht
   go_enter Tryz.func132,Tryz.ntmps132
   go_wp2_with fail
   go_ret
   exact ⟨zB (U HK).symm,by go_grown⟩
 ·have HK:Hid (aR ⟨k,s,t,l,q,i,p,g⟩ = false):=by show _ = _; simp [aR,Q,hs]
  have bl:(s != 0) = true:=by simpa using hs
  clear Q hs
  go_enter Tryz.func132,Tryz.ntmps132
  go_wp2_with fail
  go_ret
  exact ⟨zB (U HK).symm,by go_grown⟩
end Go.Proofs.YtbakanofkghmiaaGreat
namespace Go.Proofs.YtbakanofkghmiaaGreat
open Go Ieee

theorem read_place {x:Nat} {s:Bool} {m:Nat} {i:Int} (h:double.read x = .number s m i):-1074 ≤ i:=by
 unfold Format.read at h
 simp only [bin,inf,sw,lp] at h
 split at h
 ·simp only [Datum.number.injEq] at h; omega
 ·split at h
  ·simp only [Datum.number.injEq] at h; omega
  ·split at h <;> cases h
theorem cut_pos {n drop:Nat} (h:2 ^ drop ≤ n):0 < Toward.even.cut false n drop:=by
 unfold Toward.cut
 simp only
 have hg:1 <<< min drop (n.log2 + 2) ≤ n:=by
  rw [Nat.one_shiftLeft]
  exact yO (Nat.pow_le_pow_right (by decide) (Nat.min_le_left _ _)) h
 have hp:0 < 1 <<< min drop (n.log2 + 2):=by rw [Nat.one_shiftLeft]; exact Nat.two_pow_pos _
 have:=Nat.div_pos hg hp
 omega
theorem near_pos {m:Nat} {i:Int} (hm:m ≠ 0) (hi:-1074 ≤ i):0 < double.nearest false (m * 4503599627370496) (i + -50):=by
 have hmag:¬ m * 4503599627370496 = 0:=by omega
 have hlog:=log_up hm
 have N:2 ^ (m.log2 + 52) ≤ m * 4503599627370496:=by
  have h:=((Nat.log2_eq_iff hm).1 rfl).1
  rw [Nat.pow_add,show (2:Nat) ^ 52 = 4503599627370496 from rfl]
  exact Nat.mul_le_mul_right _ h
 unfold Format.nearest
 rw [if_neg hmag]
 simp only [hlog,fb,lp,bin,inf,Format.word,Bool.false_eq_true,if_false]
 have hlast:i + -50 + ((m.log2 + 52:Nat):Int) - (52:Nat) ≤ max (i + -50 + ((m.log2 + 52:Nat):Int) - (52:Nat)) (-1074):=Int.le_max_left _ _
 have hup:max (i + -50 + ((m.log2 + 52:Nat):Int) - (52:Nat)) (-1074) ≤ i + -50 + ((m.log2 + 52:Nat):Int):=Int.max_le.2 ⟨by omega,by omega⟩
 generalize max (i + -50 + ((m.log2 + 52:Nat):Int) - (52:Nat)) (-1074) = last at *
 have e0:(i + -50 - last).toNat = 0:=by omega
 rw [e0,Nat.shiftLeft_zero]
 have hc:=cut_pos (n:=m * 4503599627370496) (drop:=(last - (i + -50)).toNat) (yO (Nat.pow_le_pow_right (by decide) (by omega)) N)
 generalize Toward.even.cut false (m * 4503599627370496) (last - (i + -50)).toNat = kept at *
 omega
theorem four_pos {x r:Nat} (h0:double.order x 0 = some .gt) (Q:double.order x 4687829947429945344 = some .lt ∨ double.order x 4687829947429945344 = some .eq) (hr:double.mul x 4616189618054758400 = some r):double.order 0 r ≠ some .eq:=by
 rcases above_zero h0 with hx | ⟨m,i,hx,hm⟩
 ·exfalso
  unfold Format.order at Q
  rw [hx,read_top] at Q
  simp [Datum.order] at Q
 ·have hw:=within hx hm Q
  have jy:double.mul x 4616189618054758400 = some (double.nearest false (m * 4503599627370496) (i + -50)):=by
   unfold Format.mul
   rw [hx,read_four]
   rfl
  rw [jy] at hr
  have hr:=Option.some.inj hr
  have jz:=near_pos hm (read_place hx)
  have xL:=near_le hm hw
  rw [hr] at jz xL
  clear hr jy
  have hneg:(r / 9223372036854775808 % 2 == 1) = false:=by simp; omega
  have vi:r % 9223372036854775808 = r:=by omega
  obtain ⟨m',i',e,hm'⟩:∃ m' i',double.read r = .number false m' i'∧m' ≠ 0:=by
   unfold Format.read
   simp only [bin,inf,sw,hneg,vi,lp]
   split
   ·exact ⟨_,_,rfl,by omega⟩
   ·rw [if_pos (by omega)]
    exact ⟨_,_,rfl,by omega⟩
  unfold Format.order
  rw [read_zero,e]
  simp only [Datum.order,ne_eq,Option.some.injEq]
  intro h
  have h:=Std.LawfulEqCmp.eq_of_compare h
  simp only [signed,Bool.false_eq_true,if_false,Nat.shiftLeft_eq,Nat.zero_mul] at h
  have xB:m' * 2 ^ (i' - min (-1074) i').toNat ≠ 0:=Nat.mul_ne_zero hm' (Nat.pos_iff_ne_zero.1 (Nat.two_pow_pos _))
  omega
end Go.Proofs.YtbakanofkghmiaaGreat
namespace Go.Proofs.YtbakanofkghmiaaGreat
open Go.RowKit
theorem float_nought:floatOfInt .f64 0 = 0:=by decide
theorem tkS_pos {x:Nat} (h:tkOk x = true):tkS x ≠ 0:=by
 rw [tkS_ok h]
 unfold tk
 rw [if_pos h]
 unfold tkOk at h
 simp only [xh,Bool.or_eq_true,beq_iff_eq] at h
 obtain ⟨⟨h0,Q⟩,N⟩:=h
 intro e
 rw [e,float_nought] at N
 obtain ⟨r,n,hm,_⟩:=price_four h0 Q
 have hr:tkR x = r:=by
  unfold tkR
  rw [show FloatKind.f64.format.mul x 4616189618054758400 = some r from hm]
  rfl
 rw [hr] at N
 exact four_pos h0 Q hm N
theorem fbit_zero {x:Nat} (h:fbit x = 0):x = 0:=by
 unfold fbit at h
 split at h
 ·omega
 ·exact h
theorem tkS_zero {x:Nat} (h:fbit x = 0):tkS x = 0:=by
 rw [fbit_zero h]
 decide
theorem side_of {s:Int} (h:betB s 1 2 = true):s = 1 ∨ s = 2:=by
 simp [betB] at h; omega
theorem oth_of {s:Int} (h:s = 1 ∨ s = 2):3 - s = othS s:=by
 rcases h with rfl | rfl <;> rfl
theorem cross_meet {c:Cm} (hp:prcB c = true) (o:Od):bF c.s (tkS c.p) o = bz c o:=by
 unfold prcB at hp
 by_cases N:c.t = 2
 ·rw [if_pos N] at hp
  rw [tkS_zero (of_decide_eq_true hp),bF,if_pos rfl,bz,if_pos N]
 ·rw [if_neg N] at hp
  rw [bF,if_neg (tkS_pos hp),bz,if_neg N,tkS_ok hp]
def NexS (l:List Od) (t:Od) (k:Int):Prop :=
 (k = -1∧(t.left = 0 ∨ aV l (othS t.side) = none ∨ ∃ o,aV l (othS t.side) = some o∧bF t.side t.ticks o = false)) ∨
 ∃ (i:Nat) (o:Od),k = i∧i < l.length∧l[i]? = some o∧aV l (othS t.side) = some o∧bF t.side t.ticks o = true∧t.left ≠ 0
theorem front_pre {l:List Od} {sd k:Int} (hr:bu l) (h:FrPre l sd l.length k):(k = -1∧aV l sd = none) ∨ ∃ (i:Nat) (o:Od),k = i∧i < l.length∧l[i]? = some o∧aV l sd = some o:=by
 rcases frPre_end h with ⟨rfl,jc⟩ | ⟨i,o,rfl,hi,hfo⟩
 ·refine .inl ⟨rfl,?_⟩
  rcases front_head (s:=decide (sd = 1)) (sd:=sd) hr with ⟨Q,_⟩ | ⟨j,o',Q,hf'⟩
  ·exact Q
  ·exact absurd hf'.2.1 (jc o' (yP hf'.1))
 ·refine .inr ⟨i,o,rfl,hi,hfo.1,?_⟩
  rcases front_head (s:=decide (sd = 1)) (sd:=sd) hr with ⟨_,jc⟩ | ⟨j,o',Q,hf'⟩
  ·exact absurd hfo.2.1 (jc o (yP hfo.1))
  ·rw [aV,Q,(front_unique hf' hfo).2]
theorem hit_side {l:List Od} {k:Nat} {o:Od} {q:Int} (hk:l[k]? = some o) (hs:∀ x ∈ l,x.side = 1 ∨ x.side = 2):∀ x ∈ aM l k o q,x.side = 1 ∨ x.side = 2:=by
 intro x hx
 unfold aM at hx
 split at hx
 ·rcases List.mem_append.1 hx with h | h
  ·exact hs x (List.mem_of_mem_take h)
  ·exact hs x (List.mem_of_mem_drop h)
 ·rcases List.mem_or_eq_of_mem_set hx with h | rfl
  ·exact hs x h
  ·exact hs o (yP hk)
theorem matL_side {c:Cm} {id:Int}:∀ (n:Nat) (l:List Od) (left:Int) (ts:List Ev),bu l→GoodL l→0 ≤ left→left ≤ 1000000→(∀ x ∈ l,x.side = 1 ∨ x.side = 2)→∀ x ∈ (matL c id n l left ts).1,x.side = 1 ∨ x.side = 2
 | 0,l,left,ts,_,_,_,_,hs=>hs
 | n + 1,l,left,ts,hr,hg,h0,Q,hs=>by
  rw [matL]
  by_cases hl:0 < left
  ·rw [if_pos hl]
   cases hf:aV l (othS c.s) with
   | none=>exact hs
   | some o =>
    simp only
    by_cases hm:bz c o = true
    ·rw [if_pos hm]
     obtain ⟨vD,_⟩:=dO hf
     obtain ⟨k,hk⟩:=List.getElem?_of_mem vD
     have Z:=hg.left o vD
     rw [plc_at hr hk,Int.toNat_natCast]
     have vM:=(dv hg hk (qty:=min left o.left) (by omega) (by omega)).1
     exact matL_side n _ _ _ vM.rise vM (by omega) (by omega) (hit_side hk hs)
    ·rw [if_neg hm]; exact hs
  ·rw [if_neg hl]; exact hs
def fullS (l:List Od) (t:Od):Bool:=decide (l.length = 20) || decide (8 < nlev (l ++ [t]))
theorem full_eq {l:List Od} {t:Od} (hl:l.length ≤ 20) (hs:∀ x ∈ l ++ [t],x.side = 1 ∨ x.side = 2):fullB (l ++ [t]) = fullS l t:=by
 unfold fullB fullS
 have hn:=nlev_eq hs (dd true _) (dd false _)
 by_cases h:l.length = 20
 ·rw [if_pos (by simp; omega)]; simp [h]
 ·rw [if_neg (by simp; omega),aT,aT,List.length_map,List.length_map,hn]
  simp only [h,decide_false,Bool.false_or]
  rw [Bool.eq_iff_iff]
  simp only [xj]
  omega
def matS (next:Int) (c:Cm) (ty:List Od × Int × List Ev):Int :=
 if c.t = 5∧0 < ty.2.2.length then 11 else if c.t = 4∧0 < ty.2.1 then 12 else if next = 1000000 then 13
 else if aO c.t = true then (if 0 < ty.2.1 then (if ty.1.length = 20 then 13 else if 8 < nlev (ty.1 ++ [⟨next,c.s,tkS c.p,ty.2.1,c.l,c.g⟩]) then 13 else 0) else 0) else 0
theorem matS_eq {next:Int} {c:Cm} {l:List Od} (hg:GoodL l) (uJ:∀ x ∈ l,x.side = 1 ∨ x.side = 2) (hs:betB c.s 1 2 = true) (hp:prcB c = true) (hq:betB c.q 1 1000000 = true):matS next c (matL c next 21 l c.q []) = matR next c (matL c next 21 l c.q []):=by
 have hq':1 ≤ c.q∧c.q ≤ 1000000:=by simpa [betB] using hq
 have hgood:=cN (c:=c) (id:=next) 21 l c.q [] hg (by omega) (by omega)
 have hside:=matL_side (c:=c) (id:=next) 21 l c.q [] hg.rise hg (by omega) (by omega) uJ
 generalize matL c next 21 l c.q [] = ty at *
 unfold matS matR
 by_cases Q:c.t = 5∧0 < ty.2.2.length
 ·rw [if_pos Q,if_pos Q]
 rw [if_neg Q,if_neg Q]
 by_cases N:c.t = 4∧0 < ty.2.1
 ·rw [if_pos N,if_pos N]
 rw [if_neg N,if_neg N]
 by_cases h3:next = 1000000
 ·rw [if_pos h3,if_pos h3]
 rw [if_neg h3,if_neg h3]
 by_cases h4:aO c.t = true
 ·by_cases h5:0 < ty.2.1
  ·rw [if_pos h4,if_pos h5,if_pos (show aO c.t = true∧0 < ty.2.1 from ⟨h4,h5⟩)]
   have jr:c.t ≠ 2:=by
    intro e; rw [e] at h4; exact absurd h4 (by decide)
   have qa:tkOk c.p = true:=by unfold prcB at hp; rw [if_neg jr] at hp; exact hp
   have Z:({ ordO c next with left:=ty.2.1 }:Od) = ⟨next,c.s,tkS c.p,ty.2.1,c.l,c.g⟩:=by
    unfold ordO; rw [tkS_ok qa]
   rw [Z]
   have hfe:=full_eq (l:=ty.1) (t:=⟨next,c.s,tkS c.p,ty.2.1,c.l,c.g⟩) hgood.1.len (fun x hx=>by
    rcases List.mem_append.1 hx with h | h
    ·exact hside x h
    ·simp at h; subst h; exact side_of hs)
   rw [hfe]
   unfold fullS
   by_cases h6:ty.1.length = 20
   ·simp [h6]
   ·by_cases h7:8 < nlev (ty.1 ++ [⟨next,c.s,tkS c.p,ty.2.1,c.l,c.g⟩])
    ·simp [h6,h7]
    ·simp [h6,h7]
  ·rw [if_pos h4,if_neg h5,if_neg (by simp [h5])]
 ·rw [if_neg h4,if_neg (by simp [h4])]
def refS (next:Int) (l:List Od) (c:Cm):Int :=
 if betB c.k 1 4 = false then 1 else if aR c = false then 2 else if c.k = 1 then newR next l c else if c.k = 4 then 0
 else if c.k = 3∧betB c.q 1 1000000 = false then 7 else if plc l c.i < 0 then 9
 else match l[(plc l c.i).toNat]? with | some o=>if c.k = 3∧o.left ≤ c.q then 10 else 0 | none=>0
theorem same_form {k s t l q i:Int} {p:Nat} {g:ByteArray} (hk:k = 1 ∨ k = 2 ∨ k = 3 ∨ k = 4):aR ⟨k,s,t,l,q,i,p,g⟩ = (if k = 1 then aK ⟨1,s,t,l,q,0,p,g⟩ ⟨k,s,t,l,q,i,p,g⟩ else if k = 2 then aK ⟨2,0,0,0,0,i,0,⟨#[]⟩⟩ ⟨k,s,t,l,q,i,p,g⟩ else if k = 3 then aK ⟨3,0,0,0,q,i,0,⟨#[]⟩⟩ ⟨k,s,t,l,q,i,p,g⟩ else aK ⟨4,0,0,0,0,0,0,⟨#[]⟩⟩ ⟨k,s,t,l,q,i,p,g⟩):=by
 have hz:fbit 0 = 0:=by decide
 have he:(⟨#[]⟩:ByteArray).toList = []:=by unfold ByteArray.toList; rw [ByteArray.toList.loop]; rfl
 have hg:∀ x:List UInt8,decide ([] = x) = x.isEmpty:=by intro x; cases x <;> rfl
 rw [Bool.eq_iff_iff]
 rcases hk with rfl | rfl | rfl | rfl
 ·simp [aR,aK]; omega
 ·simp [aR,aK,hz,he]
  constructor
  ·rintro ⟨⟨Q,N,h3,h4,h5⟩,h6⟩
   exact ⟨Q.symm,N.symm,h3.symm,h6.symm,h4.symm,h5⟩
  ·rintro ⟨Q,N,h3,h6,h4,h5⟩
   exact ⟨⟨Q.symm,N.symm,h3.symm,h4.symm,h5⟩,h6.symm⟩
 ·simp [aR,aK,hz,he]
  constructor
  ·rintro ⟨Q,N,h3,h4,h5⟩
   exact ⟨Q.symm,N.symm,h3.symm,h4.symm,h5⟩
  ·rintro ⟨Q,N,h3,h4,h5⟩
   exact ⟨Q.symm,N.symm,h3.symm,h4.symm,h5⟩
 ·simp [aR,aK,hz,he]
  constructor
  ·rintro ⟨⟨Q,N,h3,h4,h5⟩,h6,h7⟩
   exact ⟨Q.symm,N.symm,h3.symm,h6.symm,h7.symm,h4.symm,h5⟩
  ·rintro ⟨Q,N,h3,h6,h7,h4,h5⟩
   exact ⟨⟨Q.symm,N.symm,h3.symm,h4.symm,h5⟩,h6.symm,h7.symm⟩
theorem ref_eq (next:Int) (l:List Od) (c:Cm):refS next l c = refR next l c:=by
 obtain ⟨k,s,t,li,q,i,p,g⟩:=c
 by_cases hk:k = 1 ∨ k = 2 ∨ k = 3 ∨ k = 4
 ·have X:betB k 1 4 = true:=by simp [betB]; omega
  have hf:=same_form (s:=s) (t:=t) (l:=li) (q:=q) (i:=i) (p:=p) (g:=g) hk
  unfold refS refR
  simp only [X,hf]
  rcases hk with rfl | rfl | rfl | rfl
  ·simp
   cases aK ⟨1,s,t,li,q,0,p,g⟩ ⟨1,s,t,li,q,i,p,g⟩ <;> simp
  ·simp
   cases aK ⟨2,0,0,0,0,i,0,⟨#[]⟩⟩ ⟨2,s,t,li,q,i,p,g⟩ <;> simp [idR]
   rcases dt l i with e | ⟨k,o,e,Z⟩
   ·rw [e]; rfl
   ·rw [e]; simp [Z]
  ·simp
   cases aK ⟨3,0,0,0,q,i,0,⟨#[]⟩⟩ ⟨3,s,t,li,q,i,p,g⟩ <;> simp [redR]
   cases betB q 1 1000000 <;> simp
   rcases dt l i with e | ⟨k,o,e,Z⟩
   ·rw [e]; rfl
   ·rw [e]; simp [Z]
  ·simp
   cases aK ⟨4,0,0,0,0,0,0,⟨#[]⟩⟩ ⟨4,s,t,li,q,i,p,g⟩ <;> simp
 ·have X:betB k 1 4 = false:=by
   cases h:betB k 1 4
   ·rfl
   ·simp [betB] at h; omega
  unfold refS refR
  simp only [X]
  simp
  rw [if_neg (by omega),if_neg (by omega),if_neg (by omega),if_neg (by omega)]
end Go.Proofs.YtbakanofkghmiaaGreat
