/-
  A float's bits, and whether a float is the plus nought, by the model: proved by walking both functions.
-/
import Derived.Test.YtbakanofkghmiaaGreatPj32
set_option linter.unusedVariables false
set_option maxHeartbeats 6400000
set_option maxRecDepth 100000
namespace Go.Proofs.YtbakanofkghmiaaGreat
open Go.RowKit
theorem l04Zero_any (x:Nat) (w:World) :
  Calls Tryz.prog 159 #[yh x] w fun e w'=>e = yk (.bool (decide (fbit x = 0)))∧w' = w:=by
 have HL:=Q (fun w=>bitsS_any x w)
 generalize fbit x = u at *
 have hdec:decide (u = 0) = (((u:Nat):Int) == 0):=by
  by_cases h:u = 0 <;> simp [h]
 go_enter Tryz.func159,Tryz.ntmps159
 go_wp2_with fail
 refine (M HL _).mono ?_
 rintro e w' ⟨rfl,rfl⟩
 have HD:=Q hdec
 clear hdec
 go_wp2_with fail
 go_ret
 exact ⟨zl (M HD).symm,rfl⟩
theorem dn (next:Int) (a:Option Addr) (n F:Nat) (c:Cm) (w:World) :
  Calls Tryz.prog 90 #[.agg #[H next,.slice a n F],cmV c] w fun e w'=>e = yk (.agg (yt next c.s (tkS c.p) c.q c.l c.g).toArray)∧yl w w':=by
 obtain ⟨k,s,t,l,q,i,p,g⟩:=c
 unfold cmV
 simp only
 have HT:=Q (fun W=>l01Ticks_any p W)
 generalize tkS p = tt at HT ⊢
 generalize tkOk p = tb at HT
 go_enter Tryz.func90,Tryz.ntmps90
 go_wp2_with fail
 refine (M HT _).mono ?_
 rintro e w' ⟨rfl,rfl⟩
 go_wp2_with fail
 go_returns
 exact ⟨rfl,by go_grown⟩
def aE (c:Cm):Bool :=
 if c.k = 1 then (c.i == 0) else if c.s ≠ 0 ∨ c.t ≠ 0 ∨ c.l ≠ 0 ∨ fbit c.p ≠ 0 ∨ c.g.toList.isEmpty = false then false else ((c.k == 3) || (c.q == 0)) && ((c.k != 4) || (c.i == 0))
theorem l04Form_any (c:Cm) (w:World) :
  Calls Tryz.prog 132 #[cmV c] w fun e w'=>e = yk (.bool (aE c))∧yl w w':=by
 obtain ⟨k,s,t,l,q,i,p,g⟩:=c
 unfold cmV
 simp only
 by_cases z:k = 1
 ·subst z
  have HK:Hid (aE ⟨1,s,t,l,q,i,p,g⟩ = (i == 0)):=by show _ = _; simp [aE]
  go_enter Tryz.func132,Tryz.ntmps132
  go_wp2_with fail
  go_ret
  exact ⟨zl (M HK).symm,by go_grown⟩
 have b1:(k == 1) = false:=by rw [xa]; exact z
 by_cases hs:s = 0
 ·subst hs
  by_cases ht:t = 0
  ·subst ht
   by_cases hl:l = 0
   ·subst hl
    have HZ:=Q (fun W=>l04Zero_any p W)
    have HFI:Hid (∀ h1:Bool,decide (fbit p = 0) = h1→aE ⟨k,0,0,0,q,i,p,g⟩ = if h1 = true then (if g.toList.isEmpty = false then false else ((k == 3) || (q == 0)) && ((k != 4) || (i == 0))) else false):=by
     intro h1 hz
     subst hz
     by_cases hp:fbit p = 0 <;> simp [aE,z,hp]
    have HFJ:=Q (M HFI _ rfl)
    generalize decide (fbit p = 0) = h1 at HZ HFJ
    clear HFI z
    go_enter Tryz.func132,Tryz.ntmps132
    go_wp2_with fail
    refine (M HZ _).mono ?_
    rintro e w' ⟨rfl,rfl⟩
    cases h1
    ·have HK:Hid (aE ⟨k,0,0,0,q,i,p,g⟩ = false):=M HFJ
     go_wp2_with fail
     go_ret
     exact ⟨zl (M HK).symm,by go_grown⟩
    ·have pP:Hid (aE ⟨k,0,0,0,q,i,p,g⟩ = if g.toList.isEmpty = false then false else ((k == 3) || (q == 0)) && ((k != 4) || (i == 0))):=by
      show _ = _
      have:=M HFJ
      simpa using this
     clear HFJ HZ
     cases hg:g.toList.isEmpty
     ·have bg:(!g.toList.isEmpty) = true:=by rw [hg]; rfl
      have HK:Hid (aE ⟨k,0,0,0,q,i,p,g⟩ = false):=(M pP).trans (if_pos hg)
      clear hg
      go_wp2_with fail
      go_ret
      exact ⟨zl (M HK).symm,by go_grown⟩
     have bg:(!g.toList.isEmpty) = false:=by rw [hg]; rfl
     have HFL:Hid (aE ⟨k,0,0,0,q,i,p,g⟩ = (((k == 3) || (q == 0)) && ((k != 4) || (i == 0)))):=(M pP).trans (if_neg (by rw [hg]; simp))
     clear hg pP
     by_cases h3:k = 3
     ·subst h3
      have HK:Hid (aE ⟨3,0,0,0,q,i,p,g⟩ = true):=(M HFL).trans (by simp)
      go_wp2_with fail
      go_ret
      exact ⟨zl (M HK).symm,by go_grown⟩
     have b3:(k == 3) = false:=by rw [xa]; exact h3
     by_cases hq:q = 0
     ·subst hq
      by_cases h4:k = 4
      ·subst h4
       have HK:Hid (aE ⟨4,0,0,0,0,i,p,g⟩ = (i == 0)):=(M HFL).trans (by simp)
       clear h3
       go_wp2_with fail
       go_ret
       exact ⟨zl (M HK).symm,by go_grown⟩
      ·have b4:(k != 4) = true:=by simpa using h4
       have HK:Hid (aE ⟨k,0,0,0,0,i,p,g⟩ = true):=(M HFL).trans (by simp [h4])
       clear h3 h4
       go_wp2_with fail
       go_ret
       exact ⟨zl (M HK).symm,by go_grown⟩
     ·have bq:(q == 0) = false:=by rw [xa]; exact hq
      have HK:Hid (aE ⟨k,0,0,0,q,i,p,g⟩ = false):=(M HFL).trans (by simp [h3,hq])
      clear h3 hq
      go_wp2_with fail
      go_ret
      exact ⟨zl (M HK).symm,by go_grown⟩
   ·have HK:Hid (aE ⟨k,0,0,l,q,i,p,g⟩ = false):=by show _ = _; simp [aE,z,hl]
    have bl:(l != 0) = true:=by simpa using hl
    clear z hl
    go_enter Tryz.func132,Tryz.ntmps132
    go_wp2_with fail
    go_ret
    exact ⟨zl (M HK).symm,by go_grown⟩
  ·have HK:Hid (aE ⟨k,0,t,l,q,i,p,g⟩ = false):=by show _ = _; simp [aE,z,ht]
   have bl:(t != 0) = true:=by simpa using ht
   clear z ht
   go_enter Tryz.func132,Tryz.ntmps132
   go_wp2_with fail
   go_ret
   exact ⟨zl (M HK).symm,by go_grown⟩
 ·have HK:Hid (aE ⟨k,s,t,l,q,i,p,g⟩ = false):=by show _ = _; simp [aE,z,hs]
  have bl:(s != 0) = true:=by simpa using hs
  clear z hs
  go_enter Tryz.func132,Tryz.ntmps132
  go_wp2_with fail
  go_ret
  exact ⟨zl (M HK).symm,by go_grown⟩
end Go.Proofs.YtbakanofkghmiaaGreat
namespace Go.Proofs.YtbakanofkghmiaaGreat
open Go Ieee

theorem read_place {x:Nat} {s:Bool} {m:Nat} {i:Int} (h:double.read x = .number s m i):-1074 ≤ i:=by
 unfold Format.read at h
 simp only [bin,inf,sw,lp] at h
 split at h
 ·simp only [Datum.number.injEq] at h; omega
 ·split at h
  ·simp only [Datum.number.injEq] at h; omega
  ·split at h <;> cases h
theorem cut_pos {n drop:Nat} (h:2 ^ drop ≤ n):0 < Toward.even.cut false n drop:=by
 unfold Toward.cut
 simp only
 have hg:1 <<< min drop (n.log2 + 2) ≤ n:=by
  rw [Nat.one_shiftLeft]
  exact yK (Nat.pow_le_pow_right (by decide) (Nat.min_le_left _ _)) h
 have hp:0 < 1 <<< min drop (n.log2 + 2):=by rw [Nat.one_shiftLeft]; exact Nat.two_pow_pos _
 have:=Nat.div_pos hg hp
 omega
theorem near_pos {m:Nat} {i:Int} (hm:m ≠ 0) (hi:-1074 ≤ i):0 < double.nearest false (m * 4503599627370496) (i + -50):=by
 have hmag:¬ m * 4503599627370496 = 0:=by omega
 have hlog:=log_up hm
 have K:2 ^ (m.log2 + 52) ≤ m * 4503599627370496:=by
  have h:=((Nat.log2_eq_iff hm).1 rfl).1
  rw [Nat.pow_add,show (2:Nat) ^ 52 = 4503599627370496 from rfl]
  exact Nat.mul_le_mul_right _ h
 unfold Format.nearest
 rw [if_neg hmag]
 simp only [hlog,fb,lp,bin,inf,Format.word,Bool.false_eq_true,if_false]
 have hlast:i + -50 + ((m.log2 + 52:Nat):Int) - (52:Nat) ≤ max (i + -50 + ((m.log2 + 52:Nat):Int) - (52:Nat)) (-1074):=Int.le_max_left _ _
 have hup:max (i + -50 + ((m.log2 + 52:Nat):Int) - (52:Nat)) (-1074) ≤ i + -50 + ((m.log2 + 52:Nat):Int):=Int.max_le.2 ⟨by omega,by omega⟩
 generalize max (i + -50 + ((m.log2 + 52:Nat):Int) - (52:Nat)) (-1074) = last at *
 have e0:(i + -50 - last).toNat = 0:=by omega
 rw [e0,Nat.shiftLeft_zero]
 have hc:=cut_pos (n:=m * 4503599627370496) (drop:=(last - (i + -50)).toNat) (yK (Nat.pow_le_pow_right (by decide) (by omega)) K)
 generalize Toward.even.cut false (m * 4503599627370496) (last - (i + -50)).toNat = kept at *
 omega
theorem four_pos {x r:Nat} (h0:double.order x 0 = some .gt) (z:double.order x 4687829947429945344 = some .lt ∨ double.order x 4687829947429945344 = some .eq) (hr:double.mul x 4616189618054758400 = some r):double.order 0 r ≠ some .eq:=by
 rcases above_zero h0 with hx | ⟨m,i,hx,hm⟩
 ·exfalso
  unfold Format.order at z
  rw [hx,read_top] at z
  simp [Datum.order] at z
 ·have hw:=within hx hm z
  have jl:double.mul x 4616189618054758400 = some (double.nearest false (m * 4503599627370496) (i + -50)):=by
   unfold Format.mul
   rw [hx,read_four]
   rfl
  rw [jl] at hr
  have hr:=Option.some.inj hr
  have vW:=near_pos hm (read_place hx)
  have xL:=near_le hm hw
  rw [hr] at vW xL
  clear hr jl
  have hneg:(r / 9223372036854775808 % 2 == 1) = false:=by simp; omega
  have uR:r % 9223372036854775808 = r:=by omega
  obtain ⟨m',i',e,hm'⟩:∃ m' i',double.read r = .number false m' i'∧m' ≠ 0:=by
   unfold Format.read
   simp only [bin,inf,sw,hneg,uR,lp]
   split
   ·exact ⟨_,_,rfl,by omega⟩
   ·rw [if_pos (by omega)]
    exact ⟨_,_,rfl,by omega⟩
  unfold Format.order
  rw [read_zero,e]
  simp only [Datum.order,ne_eq,Option.some.injEq]
  intro h
  have h:=Std.LawfulEqCmp.eq_of_compare h
  simp only [signed,Bool.false_eq_true,if_false,Nat.shiftLeft_eq,Nat.zero_mul] at h
  have xA:m' * 2 ^ (i' - min (-1074) i').toNat ≠ 0:=Nat.mul_ne_zero hm' (Nat.pos_iff_ne_zero.1 (Nat.two_pow_pos _))
  omega
end Go.Proofs.YtbakanofkghmiaaGreat
namespace Go.Proofs.YtbakanofkghmiaaGreat
open Go.RowKit
theorem float_nought:floatOfInt .f64 0 = 0:=by decide
theorem tkS_pos {x:Nat} (h:tkOk x = true):tkS x ≠ 0:=by
 rw [tkS_ok h]
 unfold tk
 rw [if_pos h]
 unfold tkOk at h
 simp only [xb,Bool.or_eq_true,beq_iff_eq] at h
 obtain ⟨⟨h0,z⟩,K⟩:=h
 intro e
 rw [e,float_nought] at K
 obtain ⟨r,n,hm,_⟩:=price_four h0 z
 have hr:tkR x = r:=by
  unfold tkR
  rw [show FloatKind.f64.format.mul x 4616189618054758400 = some r from hm]
  rfl
 rw [hr] at K
 exact four_pos h0 z hm K
theorem fbit_zero {x:Nat} (h:fbit x = 0):x = 0:=by
 unfold fbit at h
 split at h
 ·omega
 ·exact h
theorem tkS_zero {x:Nat} (h:fbit x = 0):tkS x = 0:=by
 rw [fbit_zero h]
 decide
theorem side_of {s:Int} (h:betB s 1 2 = true):s = 1 ∨ s = 2:=by
 simp [betB] at h; omega
theorem oth_of {s:Int} (h:s = 1 ∨ s = 2):3 - s = othS s:=by
 rcases h with rfl | rfl <;> rfl
theorem cross_meet {c:Cm} (hp:prcB c = true) (o:Od):bw c.s (tkS c.p) o = aI c o:=by
 unfold prcB at hp
 by_cases K:c.t = 2
 ·rw [if_pos K] at hp
  rw [tkS_zero (of_decide_eq_true hp),bw,if_pos rfl,aI,if_pos K]
 ·rw [if_neg K] at hp
  rw [bw,if_neg (tkS_pos hp),aI,if_neg K,tkS_ok hp]
def NexS (l:List Od) (t:Od) (k:Int):Prop :=
 (k = -1∧(t.left = 0 ∨ aD l (othS t.side) = none ∨ ∃ o,aD l (othS t.side) = some o∧bw t.side t.ticks o = false)) ∨
 ∃ (i:Nat) (o:Od),k = i∧i < l.length∧l[i]? = some o∧aD l (othS t.side) = some o∧bw t.side t.ticks o = true∧t.left ≠ 0
theorem front_pre {l:List Od} {sd k:Int} (hr:aH l) (h:FrPre l sd l.length k):(k = -1∧aD l sd = none) ∨ ∃ (i:Nat) (o:Od),k = i∧i < l.length∧l[i]? = some o∧aD l sd = some o:=by
 rcases frPre_end h with ⟨rfl,qS⟩ | ⟨i,o,rfl,hi,hfo⟩
 ·refine .inl ⟨rfl,?_⟩
  rcases dM (s:=decide (sd = 1)) (sd:=sd) hr with ⟨z,_⟩ | ⟨j,o',z,hf'⟩
  ·exact z
  ·exact absurd hf'.2.1 (qS o' (yL hf'.1))
 ·refine .inr ⟨i,o,rfl,hi,hfo.1,?_⟩
  rcases dM (s:=decide (sd = 1)) (sd:=sd) hr with ⟨_,qS⟩ | ⟨j,o',z,hf'⟩
  ·exact absurd hfo.2.1 (qS o (yL hfo.1))
  ·rw [aD,z,(front_unique hf' hfo).2]
theorem hit_side {l:List Od} {k:Nat} {o:Od} {q:Int} (hk:l[k]? = some o) (hs:∀ x ∈ l,x.side = 1 ∨ x.side = 2):∀ x ∈ zR l k o q,x.side = 1 ∨ x.side = 2:=by
 intro x hx
 unfold zR at hx
 split at hx
 ·rcases List.mem_append.1 hx with h | h
  ·exact hs x (List.mem_of_mem_take h)
  ·exact hs x (List.mem_of_mem_drop h)
 ·rcases List.mem_or_eq_of_mem_set hx with h | rfl
  ·exact hs x h
  ·exact hs o (yL hk)
theorem matL_side {c:Cm} {id:Int}:∀ (n:Nat) (l:List Od) (left:Int) (ts:List Ev),aH l→GoodL l→0 ≤ left→left ≤ 1000000→(∀ x ∈ l,x.side = 1 ∨ x.side = 2)→∀ x ∈ (matL c id n l left ts).1,x.side = 1 ∨ x.side = 2
 | 0,l,left,ts,_,_,_,_,hs=>hs
 | n + 1,l,left,ts,hr,hg,h0,z,hs=>by
  rw [matL]
  by_cases hl:0 < left
  ·rw [if_pos hl]
   cases hf:aD l (othS c.s) with
   | none=>exact hs
   | some o =>
    simp only
    by_cases hm:aI c o = true
    ·rw [if_pos hm]
     obtain ⟨vi,_⟩:=cX hf
     obtain ⟨k,hk⟩:=List.getElem?_of_mem vi
     have Y:=hg.left o vi
     rw [plc_at hr hk,Int.toNat_natCast]
     have qj:=(dd hg hk (qty:=min left o.left) (by omega) (by omega)).1
     exact matL_side n _ _ _ qj.rise qj (by omega) (by omega) (hit_side hk hs)
    ·rw [if_neg hm]; exact hs
  ·rw [if_neg hl]; exact hs
def fullS (l:List Od) (t:Od):Bool:=decide (l.length = 20) || decide (8 < nlev (l ++ [t]))
theorem full_eq {l:List Od} {t:Od} (hl:l.length ≤ 20) (hs:∀ x ∈ l ++ [t],x.side = 1 ∨ x.side = 2):aZ (l ++ [t]) = fullS l t:=by
 unfold aZ fullS
 have hn:=nlev_eq hs (aW true _) (aW false _)
 by_cases h:l.length = 20
 ·rw [if_pos (by simp; omega)]; simp [h]
 ·rw [if_neg (by simp; omega),aB,aB,List.length_map,List.length_map,hn]
  simp only [h,decide_false,Bool.false_or]
  rw [Bool.eq_iff_iff]
  simp only [xc]
  omega
def matS (next:Int) (c:Cm) (xh:List Od × Int × List Ev):Int :=
 if c.t = 5∧0 < xh.2.2.length then 11 else if c.t = 4∧0 < xh.2.1 then 12 else if next = 1000000 then 13
 else if ay c.t = true then (if 0 < xh.2.1 then (if xh.1.length = 20 then 13 else if 8 < nlev (xh.1 ++ [⟨next,c.s,tkS c.p,xh.2.1,c.l,c.g⟩]) then 13 else 0) else 0) else 0
theorem matS_eq {next:Int} {c:Cm} {l:List Od} (hg:GoodL l) (uu:∀ x ∈ l,x.side = 1 ∨ x.side = 2) (hs:betB c.s 1 2 = true) (hp:prcB c = true) (hq:betB c.q 1 1000000 = true):matS next c (matL c next 21 l c.q []) = matR next c (matL c next 21 l c.q []):=by
 have hq':1 ≤ c.q∧c.q ≤ 1000000:=by simpa [betB] using hq
 have hgood:=cM (c:=c) (id:=next) 21 l c.q [] hg (by omega) (by omega)
 have hside:=matL_side (c:=c) (id:=next) 21 l c.q [] hg.rise hg (by omega) (by omega) uu
 generalize matL c next 21 l c.q [] = xh at *
 unfold matS matR
 by_cases z:c.t = 5∧0 < xh.2.2.length
 ·rw [if_pos z,if_pos z]
 rw [if_neg z,if_neg z]
 by_cases K:c.t = 4∧0 < xh.2.1
 ·rw [if_pos K,if_pos K]
 rw [if_neg K,if_neg K]
 by_cases h3:next = 1000000
 ·rw [if_pos h3,if_pos h3]
 rw [if_neg h3,if_neg h3]
 by_cases h4:ay c.t = true
 ·by_cases h5:0 < xh.2.1
  ·rw [if_pos h4,if_pos h5,if_pos (show ay c.t = true∧0 < xh.2.1 from ⟨h4,h5⟩)]
   have jO:c.t ≠ 2:=by
    intro e; rw [e] at h4; exact absurd h4 (by decide)
   have xV:tkOk c.p = true:=by unfold prcB at hp; rw [if_neg jO] at hp; exact hp
   have Y:({ ordO c next with left:=xh.2.1 }:Od) = ⟨next,c.s,tkS c.p,xh.2.1,c.l,c.g⟩:=by
    unfold ordO; rw [tkS_ok xV]
   rw [Y]
   have hfe:=full_eq (l:=xh.1) (t:=⟨next,c.s,tkS c.p,xh.2.1,c.l,c.g⟩) hgood.1.len (fun x hx=>by
    rcases List.mem_append.1 hx with h | h
    ·exact hside x h
    ·simp at h; subst h; exact side_of hs)
   rw [hfe]
   unfold fullS
   by_cases h6:xh.1.length = 20
   ·simp [h6]
   ·by_cases h7:8 < nlev (xh.1 ++ [⟨next,c.s,tkS c.p,xh.2.1,c.l,c.g⟩])
    ·simp [h6,h7]
    ·simp [h6,h7]
  ·rw [if_pos h4,if_neg h5,if_neg (by simp [h5])]
 ·rw [if_neg h4,if_neg (by simp [h4])]
def refS (next:Int) (l:List Od) (c:Cm):Int :=
 if betB c.k 1 4 = false then 1 else if aE c = false then 2 else if c.k = 1 then newR next l c else if c.k = 4 then 0
 else if c.k = 3∧betB c.q 1 1000000 = false then 7 else if plc l c.i < 0 then 9
 else match l[(plc l c.i).toNat]? with | some o=>if c.k = 3∧o.left ≤ c.q then 10 else 0 | none=>0
theorem same_form {k s t l q i:Int} {p:Nat} {g:ByteArray} (hk:k = 1 ∨ k = 2 ∨ k = 3 ∨ k = 4):aE ⟨k,s,t,l,q,i,p,g⟩ = (if k = 1 then aA ⟨1,s,t,l,q,0,p,g⟩ ⟨k,s,t,l,q,i,p,g⟩ else if k = 2 then aA ⟨2,0,0,0,0,i,0,⟨#[]⟩⟩ ⟨k,s,t,l,q,i,p,g⟩ else if k = 3 then aA ⟨3,0,0,0,q,i,0,⟨#[]⟩⟩ ⟨k,s,t,l,q,i,p,g⟩ else aA ⟨4,0,0,0,0,0,0,⟨#[]⟩⟩ ⟨k,s,t,l,q,i,p,g⟩):=by
 have hz:fbit 0 = 0:=by decide
 have he:(⟨#[]⟩:ByteArray).toList = []:=by unfold ByteArray.toList; rw [ByteArray.toList.loop]; rfl
 have hg:∀ x:List UInt8,decide ([] = x) = x.isEmpty:=by intro x; cases x <;> rfl
 rw [Bool.eq_iff_iff]
 rcases hk with rfl | rfl | rfl | rfl
 ·simp [aE,aA]; omega
 ·simp [aE,aA,hz,he]
  constructor
  ·rintro ⟨⟨z,K,h3,h4,h5⟩,h6⟩
   exact ⟨z.symm,K.symm,h3.symm,h6.symm,h4.symm,h5⟩
  ·rintro ⟨z,K,h3,h6,h4,h5⟩
   exact ⟨⟨z.symm,K.symm,h3.symm,h4.symm,h5⟩,h6.symm⟩
 ·simp [aE,aA,hz,he]
  constructor
  ·rintro ⟨z,K,h3,h4,h5⟩
   exact ⟨z.symm,K.symm,h3.symm,h4.symm,h5⟩
  ·rintro ⟨z,K,h3,h4,h5⟩
   exact ⟨z.symm,K.symm,h3.symm,h4.symm,h5⟩
 ·simp [aE,aA,hz,he]
  constructor
  ·rintro ⟨⟨z,K,h3,h4,h5⟩,h6,h7⟩
   exact ⟨z.symm,K.symm,h3.symm,h6.symm,h7.symm,h4.symm,h5⟩
  ·rintro ⟨z,K,h3,h6,h7,h4,h5⟩
   exact ⟨⟨z.symm,K.symm,h3.symm,h4.symm,h5⟩,h6.symm,h7.symm⟩
theorem ref_eq (next:Int) (l:List Od) (c:Cm):refS next l c = refR next l c:=by
 obtain ⟨k,s,t,li,q,i,p,g⟩:=c
 by_cases hk:k = 1 ∨ k = 2 ∨ k = 3 ∨ k = 4
 ·have hb:betB k 1 4 = true:=by simp [betB]; omega
  have hf:=same_form (s:=s) (t:=t) (l:=li) (q:=q) (i:=i) (p:=p) (g:=g) hk
  unfold refS refR
  simp only [hb,hf]
  rcases hk with rfl | rfl | rfl | rfl
  ·simp
   cases aA ⟨1,s,t,li,q,0,p,g⟩ ⟨1,s,t,li,q,i,p,g⟩ <;> simp
  ·simp
   cases aA ⟨2,0,0,0,0,i,0,⟨#[]⟩⟩ ⟨2,s,t,li,q,i,p,g⟩ <;> simp [idR]
   rcases du l i with e | ⟨k,o,e,Y⟩
   ·rw [e]; rfl
   ·rw [e]; simp [Y]
  ·simp
   cases aA ⟨3,0,0,0,q,i,0,⟨#[]⟩⟩ ⟨3,s,t,li,q,i,p,g⟩ <;> simp [redR]
   cases betB q 1 1000000 <;> simp
   rcases du l i with e | ⟨k,o,e,Y⟩
   ·rw [e]; rfl
   ·rw [e]; simp [Y]
  ·simp
   cases aA ⟨4,0,0,0,0,0,0,⟨#[]⟩⟩ ⟨4,s,t,li,q,i,p,g⟩ <;> simp
 ·have hb:betB k 1 4 = false:=by
   cases h:betB k 1 4
   ·rfl
   ·simp [betB] at h; omega
  unfold refS refR
  simp only [hb]
  simp
  rw [if_neg (by omega),if_neg (by omega),if_neg (by omega),if_neg (by omega)]


structure RunSt where
 n:Int
 l:List Od
 g:List (List Ev)
 t:Tot
def tot0:Tot:=⟨0,0,0,0,0,0,0,0⟩
def rstep (s:RunSt) (c:Cm):RunSt:=⟨stN s.n s.l c,stL s.n s.l c,s.g ++ [stE s.n s.l c],wgT s.t (stE s.n s.l c)⟩
def runS (cs:List Cm):RunSt:=cs.foldl rstep ⟨1,[],[],tot0⟩
theorem run_step (cs:List Cm) {k:Nat} {c:Cm} (h:cs[k]? = some c):runS (cs.take (k + 1)) = rstep (runS (cs.take k)) c:=by
 unfold runS
 rw [List.take_add_one,h,List.foldl_append]; rfl
end Go.Proofs.YtbakanofkghmiaaGreat
