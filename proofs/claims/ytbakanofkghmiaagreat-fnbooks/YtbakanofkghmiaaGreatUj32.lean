/-
  Whether the fields that a command's kind has not are zero, by the model: proved by walking the function.
-/
import Derived.Test.YtbakanofkghmiaaGreatUj31
set_option linter.unusedVariables false
set_option maxHeartbeats 6400000
set_option maxRecDepth 100000
namespace Go.Proofs.YtbakanofkghmiaaGreat
open Go.RowKit
def aH (c:Cm):Bool :=
 if c.k = 1 then (c.i == 0) else if c.s ≠ 0 ∨ c.t ≠ 0 ∨ c.l ≠ 0 ∨ fbit c.p ≠ 0 ∨ c.g.toList.isEmpty = false then false else ((c.k == 3) || (c.q == 0)) && ((c.k != 4) || (c.i == 0))
theorem l04Form_any (c:Cm) (w:World) :
  Calls Tryz.prog 132 #[cmV c] w fun e w'=>e = yl (.bool (aH c))∧ym w w':=by
 obtain ⟨k,s,t,l,q,i,p,g⟩:=c
 unfold cmV
 simp only
 by_cases G:k = 1
 ·subst G
  have HK:Hid (aH ⟨1,s,t,l,q,i,p,g⟩ = (i == 0)):=by show _ = _; simp [aH]
  go_enter Tryz.func132,Tryz.ntmps132
  go_wp2_with fail
  go_ret
  exact ⟨zq (U HK).symm,by go_grown⟩
 have b1:(k == 1) = false:=by rw [xb]; exact G
 by_cases hs:s = 0
 ·subst hs
  by_cases ht:t = 0
  ·subst ht
   by_cases hl:l = 0
   ·subst hl
    have HZ:=Y (fun W=>l04Zero_any p W)
    have HFI:Hid (∀ z:Bool,decide (fbit p = 0) = z→aH ⟨k,0,0,0,q,i,p,g⟩ = if z = true then (if g.toList.isEmpty = false then false else ((k == 3) || (q == 0)) && ((k != 4) || (i == 0))) else false):=by
     intro z hz
     subst hz
     by_cases hp:fbit p = 0 <;> simp [aH,G,hp]
    have HFJ:=Y (U HFI _ rfl)
    generalize decide (fbit p = 0) = z at HZ HFJ
    clear HFI G
    go_enter Tryz.func132,Tryz.ntmps132
    go_wp2_with fail
    refine (U HZ _).mono ?_
    rintro e w' ⟨rfl,rfl⟩
    cases z
    ·have HK:Hid (aH ⟨k,0,0,0,q,i,p,g⟩ = false):=U HFJ
     go_wp2_with fail
     go_ret
     exact ⟨zq (U HK).symm,by go_grown⟩
    ·have kZ:Hid (aH ⟨k,0,0,0,q,i,p,g⟩ = if g.toList.isEmpty = false then false else ((k == 3) || (q == 0)) && ((k != 4) || (i == 0))):=by
      show _ = _
      have:=U HFJ
      simpa using this
     clear HFJ HZ
     cases hg:g.toList.isEmpty
     ·have bg:(!g.toList.isEmpty) = true:=by rw [hg]; rfl
      have HK:Hid (aH ⟨k,0,0,0,q,i,p,g⟩ = false):=(U kZ).trans (if_pos hg)
      clear hg
      go_wp2_with fail
      go_ret
      exact ⟨zq (U HK).symm,by go_grown⟩
     have bg:(!g.toList.isEmpty) = false:=by rw [hg]; rfl
     have HFL:Hid (aH ⟨k,0,0,0,q,i,p,g⟩ = (((k == 3) || (q == 0)) && ((k != 4) || (i == 0)))):=(U kZ).trans (if_neg (by rw [hg]; simp))
     clear hg kZ
     by_cases h3:k = 3
     ·subst h3
      have HK:Hid (aH ⟨3,0,0,0,q,i,p,g⟩ = true):=(U HFL).trans (by simp)
      go_wp2_with fail
      go_ret
      exact ⟨zq (U HK).symm,by go_grown⟩
     have b3:(k == 3) = false:=by rw [xb]; exact h3
     by_cases hq:q = 0
     ·subst hq
      by_cases h4:k = 4
      ·subst h4
       have HK:Hid (aH ⟨4,0,0,0,0,i,p,g⟩ = (i == 0)):=(U HFL).trans (by simp)
       clear h3
       go_wp2_with fail
       go_ret
       exact ⟨zq (U HK).symm,by go_grown⟩
      ·have b4:(k != 4) = true:=by simpa using h4
       have HK:Hid (aH ⟨k,0,0,0,0,i,p,g⟩ = true):=(U HFL).trans (by simp [h4])
       clear h3 h4
       go_wp2_with fail
       go_ret
       exact ⟨zq (U HK).symm,by go_grown⟩
     ·have bq:(q == 0) = false:=by rw [xb]; exact hq
      have HK:Hid (aH ⟨k,0,0,0,q,i,p,g⟩ = false):=(U HFL).trans (by simp [h3,hq])
      clear h3 hq
      go_wp2_with fail
      go_ret
      exact ⟨zq (U HK).symm,by go_grown⟩
   ·have HK:Hid (aH ⟨k,0,0,l,q,i,p,g⟩ = false):=by show _ = _; simp [aH,G,hl]
    have bl:(l != 0) = true:=by simpa using hl
    clear G hl
    go_enter Tryz.func132,Tryz.ntmps132
    go_wp2_with fail
    go_ret
    exact ⟨zq (U HK).symm,by go_grown⟩
  ·have HK:Hid (aH ⟨k,0,t,l,q,i,p,g⟩ = false):=by show _ = _; simp [aH,G,ht]
   have bl:(t != 0) = true:=by simpa using ht
   clear G ht
   go_enter Tryz.func132,Tryz.ntmps132
   go_wp2_with fail
   go_ret
   exact ⟨zq (U HK).symm,by go_grown⟩
 ·have HK:Hid (aH ⟨k,s,t,l,q,i,p,g⟩ = false):=by show _ = _; simp [aH,G,hs]
  have bl:(s != 0) = true:=by simpa using hs
  clear G hs
  go_enter Tryz.func132,Tryz.ntmps132
  go_wp2_with fail
  go_ret
  exact ⟨zq (U HK).symm,by go_grown⟩
end Go.Proofs.YtbakanofkghmiaaGreat
namespace Go.Proofs.YtbakanofkghmiaaGreat
open Go Ieee

theorem read_place {x:Nat} {s:Bool} {m:Nat} {i:Int} (h:double.read x = .number s m i):-1074 ≤ i:=by
 unfold Format.read at h
 simp only [bin,inf,sw,lp] at h
 split at h
 ·simp only [Datum.number.injEq] at h; omega
 ·split at h
  ·simp only [Datum.number.injEq] at h; omega
  ·split at h <;> cases h
theorem cut_pos {n drop:Nat} (h:2 ^ drop ≤ n):0 < Toward.even.cut false n drop:=by
 unfold Toward.cut
 simp only
 have hg:1 <<< min drop (n.log2 + 2) ≤ n:=by
  rw [Nat.one_shiftLeft]
  exact yL (Nat.pow_le_pow_right (by decide) (Nat.min_le_left _ _)) h
 have hp:0 < 1 <<< min drop (n.log2 + 2):=by rw [Nat.one_shiftLeft]; exact Nat.two_pow_pos _
 have:=Nat.div_pos hg hp
 omega
theorem near_pos {m:Nat} {i:Int} (hm:m ≠ 0) (hi:-1074 ≤ i):0 < double.nearest false (m * 4503599627370496) (i + -50):=by
 have hmag:¬ m * 4503599627370496 = 0:=by omega
 have hlog:=log_up hm
 have D:2 ^ (m.log2 + 52) ≤ m * 4503599627370496:=by
  have h:=((Nat.log2_eq_iff hm).1 rfl).1
  rw [Nat.pow_add,show (2:Nat) ^ 52 = 4503599627370496 from rfl]
  exact Nat.mul_le_mul_right _ h
 unfold Format.nearest
 rw [if_neg hmag]
 simp only [hlog,fb,lp,bin,inf,Format.word,Bool.false_eq_true,if_false]
 have hlast:i + -50 + ((m.log2 + 52:Nat):Int) - (52:Nat) ≤ max (i + -50 + ((m.log2 + 52:Nat):Int) - (52:Nat)) (-1074):=Int.le_max_left _ _
 have hup:max (i + -50 + ((m.log2 + 52:Nat):Int) - (52:Nat)) (-1074) ≤ i + -50 + ((m.log2 + 52:Nat):Int):=Int.max_le.2 ⟨by omega,by omega⟩
 generalize max (i + -50 + ((m.log2 + 52:Nat):Int) - (52:Nat)) (-1074) = last at *
 have e0:(i + -50 - last).toNat = 0:=by omega
 rw [e0,Nat.shiftLeft_zero]
 have hc:=cut_pos (n:=m * 4503599627370496) (drop:=(last - (i + -50)).toNat) (yL (Nat.pow_le_pow_right (by decide) (by omega)) D)
 generalize Toward.even.cut false (m * 4503599627370496) (last - (i + -50)).toNat = kept at *
 omega
theorem four_pos {x r:Nat} (h0:double.order x 0 = some .gt) (G:double.order x 4687829947429945344 = some .lt ∨ double.order x 4687829947429945344 = some .eq) (hr:double.mul x 4616189618054758400 = some r):double.order 0 r ≠ some .eq:=by
 rcases above_zero h0 with hx | ⟨m,i,hx,hm⟩
 ·exfalso
  unfold Format.order at G
  rw [hx,read_top] at G
  simp [Datum.order] at G
 ·have hw:=within hx hm G
  have jA:double.mul x 4616189618054758400 = some (double.nearest false (m * 4503599627370496) (i + -50)):=by
   unfold Format.mul
   rw [hx,read_four]
   rfl
  rw [jA] at hr
  have hr:=Option.some.inj hr
  have qm:=near_pos hm (read_place hx)
  have xI:=near_le hm hw
  rw [hr] at qm xI
  clear hr jA
  have hneg:(r / 9223372036854775808 % 2 == 1) = false:=by simp; omega
  have vi:r % 9223372036854775808 = r:=by omega
  obtain ⟨m',i',e,hm'⟩:∃ m' i',double.read r = .number false m' i'∧m' ≠ 0:=by
   unfold Format.read
   simp only [bin,inf,sw,hneg,vi,lp]
   split
   ·exact ⟨_,_,rfl,by omega⟩
   ·rw [if_pos (by omega)]
    exact ⟨_,_,rfl,by omega⟩
  unfold Format.order
  rw [read_zero,e]
  simp only [Datum.order,ne_eq,Option.some.injEq]
  intro h
  have h:=Std.LawfulEqCmp.eq_of_compare h
  simp only [signed,Bool.false_eq_true,if_false,Nat.shiftLeft_eq,Nat.zero_mul] at h
  have xA:m' * 2 ^ (i' - min (-1074) i').toNat ≠ 0:=Nat.mul_ne_zero hm' (Nat.pos_iff_ne_zero.1 (Nat.two_pow_pos _))
  omega
end Go.Proofs.YtbakanofkghmiaaGreat
namespace Go.Proofs.YtbakanofkghmiaaGreat
open Go.RowKit
theorem float_nought:floatOfInt .f64 0 = 0:=by decide
theorem tkS_pos {x:Nat} (h:tkOk x = true):tkS x ≠ 0:=by
 rw [tkS_ok h]
 unfold tk
 rw [if_pos h]
 unfold tkOk at h
 simp only [xc,Bool.or_eq_true,beq_iff_eq] at h
 obtain ⟨⟨h0,G⟩,D⟩:=h
 intro e
 rw [e,float_nought] at D
 obtain ⟨r,n,hm,_⟩:=price_four h0 G
 have hr:tkR x = r:=by
  unfold tkR
  rw [show FloatKind.f64.format.mul x 4616189618054758400 = some r from hm]
  rfl
 rw [hr] at D
 exact four_pos h0 G hm D
theorem fbit_zero {x:Nat} (h:fbit x = 0):x = 0:=by
 unfold fbit at h
 split at h
 ·omega
 ·exact h
theorem tkS_zero {x:Nat} (h:fbit x = 0):tkS x = 0:=by
 rw [fbit_zero h]
 decide
theorem side_of {s:Int} (h:betB s 1 2 = true):s = 1 ∨ s = 2:=by
 simp [betB] at h; omega
theorem oth_of {s:Int} (h:s = 1 ∨ s = 2):3 - s = othS s:=by
 rcases h with rfl | rfl <;> rfl
theorem cross_meet {c:Cm} (hp:prcB c = true) (o:Od):br c.s (tkS c.p) o = aN c o:=by
 unfold prcB at hp
 by_cases D:c.t = 2
 ·rw [if_pos D] at hp
  rw [tkS_zero (of_decide_eq_true hp),br,if_pos rfl,aN,if_pos D]
 ·rw [if_neg D] at hp
  rw [br,if_neg (tkS_pos hp),aN,if_neg D,tkS_ok hp]
def NexS (l:List Od) (t:Od) (k:Int):Prop :=
 (k = -1∧(t.left = 0 ∨ aI l (othS t.side) = none ∨ ∃ o,aI l (othS t.side) = some o∧br t.side t.ticks o = false)) ∨
 ∃ (i:Nat) (o:Od),k = i∧i < l.length∧l[i]? = some o∧aI l (othS t.side) = some o∧br t.side t.ticks o = true∧t.left ≠ 0
theorem front_pre {l:List Od} {sd k:Int} (hr:aK l) (h:FrPre l sd l.length k):(k = -1∧aI l sd = none) ∨ ∃ (i:Nat) (o:Od),k = i∧i < l.length∧l[i]? = some o∧aI l sd = some o:=by
 rcases frPre_end h with ⟨rfl,jc⟩ | ⟨i,o,rfl,hi,hfo⟩
 ·refine .inl ⟨rfl,?_⟩
  rcases dJ (s:=decide (sd = 1)) (sd:=sd) hr with ⟨G,_⟩ | ⟨j,o',G,hf'⟩
  ·exact G
  ·exact absurd hf'.2.1 (jc o' (yM hf'.1))
 ·refine .inr ⟨i,o,rfl,hi,hfo.1,?_⟩
  rcases dJ (s:=decide (sd = 1)) (sd:=sd) hr with ⟨_,jc⟩ | ⟨j,o',G,hf'⟩
  ·exact absurd hfo.2.1 (jc o (yM hfo.1))
  ·rw [aI,G,(front_unique hf' hfo).2]
theorem hit_side {l:List Od} {k:Nat} {o:Od} {q:Int} (hk:l[k]? = some o) (hs:∀ x ∈ l,x.side = 1 ∨ x.side = 2):∀ x ∈ aB l k o q,x.side = 1 ∨ x.side = 2:=by
 intro x hx
 unfold aB at hx
 split at hx
 ·rcases List.mem_append.1 hx with h | h
  ·exact hs x (List.mem_of_mem_take h)
  ·exact hs x (List.mem_of_mem_drop h)
 ·rcases List.mem_or_eq_of_mem_set hx with h | rfl
  ·exact hs x h
  ·exact hs o (yM hk)
theorem matL_side {c:Cm} {id:Int}:∀ (n:Nat) (l:List Od) (left:Int) (ts:List Ev),aK l→GoodL l→0 ≤ left→left ≤ 1000000→(∀ x ∈ l,x.side = 1 ∨ x.side = 2)→∀ x ∈ (matL c id n l left ts).1,x.side = 1 ∨ x.side = 2
 | 0,l,left,ts,_,_,_,_,hs=>hs
 | n + 1,l,left,ts,hr,hg,h0,G,hs=>by
  rw [matL]
  by_cases hl:0 < left
  ·rw [if_pos hl]
   cases hf:aI l (othS c.s) with
   | none=>exact hs
   | some o =>
    simp only
    by_cases hm:aN c o = true
    ·rw [if_pos hm]
     obtain ⟨uZ,_⟩:=cT hf
     obtain ⟨k,hk⟩:=List.getElem?_of_mem uZ
     have Z:=hg.left o uZ
     rw [plc_at hr hk,Int.toNat_natCast]
     have qc:=(cG hg hk (qty:=min left o.left) (by omega) (by omega)).1
     exact matL_side n _ _ _ qc.rise qc (by omega) (by omega) (hit_side hk hs)
    ·rw [if_neg hm]; exact hs
  ·rw [if_neg hl]; exact hs
def fullS (l:List Od) (t:Od):Bool:=decide (l.length = 20) || decide (8 < nlev (l ++ [t]))
theorem full_eq {l:List Od} {t:Od} (hl:l.length ≤ 20) (hs:∀ x ∈ l ++ [t],x.side = 1 ∨ x.side = 2):aV (l ++ [t]) = fullS l t:=by
 unfold aV fullS
 have hn:=nlev_eq hs (aZ true _) (aZ false _)
 by_cases h:l.length = 20
 ·rw [if_pos (by simp; omega)]; simp [h]
 ·rw [if_neg (by simp; omega),aE,aE,List.length_map,List.length_map,hn]
  simp only [h,decide_false,Bool.false_or]
  rw [Bool.eq_iff_iff]
  simp only [xd]
  omega
def matS (next:Int) (c:Cm) (qt:List Od × Int × List Ev):Int :=
 if c.t = 5∧0 < qt.2.2.length then 11 else if c.t = 4∧0 < qt.2.1 then 12 else if next = 1000000 then 13
 else if aC c.t = true then (if 0 < qt.2.1 then (if qt.1.length = 20 then 13 else if 8 < nlev (qt.1 ++ [⟨next,c.s,tkS c.p,qt.2.1,c.l,c.g⟩]) then 13 else 0) else 0) else 0
theorem matS_eq {next:Int} {c:Cm} {l:List Od} (hg:GoodL l) (uC:∀ x ∈ l,x.side = 1 ∨ x.side = 2) (hs:betB c.s 1 2 = true) (hp:prcB c = true) (hq:betB c.q 1 1000000 = true):matS next c (matL c next 21 l c.q []) = matR next c (matL c next 21 l c.q []):=by
 have hq':1 ≤ c.q∧c.q ≤ 1000000:=by simpa [betB] using hq
 have hgood:=bR (c:=c) (id:=next) 21 l c.q [] hg (by omega) (by omega)
 have hside:=matL_side (c:=c) (id:=next) 21 l c.q [] hg.rise hg (by omega) (by omega) uC
 generalize matL c next 21 l c.q [] = qt at *
 unfold matS matR
 by_cases G:c.t = 5∧0 < qt.2.2.length
 ·rw [if_pos G,if_pos G]
 rw [if_neg G,if_neg G]
 by_cases D:c.t = 4∧0 < qt.2.1
 ·rw [if_pos D,if_pos D]
 rw [if_neg D,if_neg D]
 by_cases h3:next = 1000000
 ·rw [if_pos h3,if_pos h3]
 rw [if_neg h3,if_neg h3]
 by_cases h4:aC c.t = true
 ·by_cases h5:0 < qt.2.1
  ·rw [if_pos h4,if_pos h5,if_pos (show aC c.t = true∧0 < qt.2.1 from ⟨h4,h5⟩)]
   have js:c.t ≠ 2:=by
    intro e; rw [e] at h4; exact absurd h4 (by decide)
   have uM:tkOk c.p = true:=by unfold prcB at hp; rw [if_neg js] at hp; exact hp
   have Z:({ ordO c next with left:=qt.2.1 }:Od) = ⟨next,c.s,tkS c.p,qt.2.1,c.l,c.g⟩:=by
    unfold ordO; rw [tkS_ok uM]
   rw [Z]
   have hfe:=full_eq (l:=qt.1) (t:=⟨next,c.s,tkS c.p,qt.2.1,c.l,c.g⟩) hgood.1.len (fun x hx=>by
    rcases List.mem_append.1 hx with h | h
    ·exact hside x h
    ·simp at h; subst h; exact side_of hs)
   rw [hfe]
   unfold fullS
   by_cases h6:qt.1.length = 20
   ·simp [h6]
   ·by_cases h7:8 < nlev (qt.1 ++ [⟨next,c.s,tkS c.p,qt.2.1,c.l,c.g⟩])
    ·simp [h6,h7]
    ·simp [h6,h7]
  ·rw [if_pos h4,if_neg h5,if_neg (by simp [h5])]
 ·rw [if_neg h4,if_neg (by simp [h4])]
def refS (next:Int) (l:List Od) (c:Cm):Int :=
 if betB c.k 1 4 = false then 1 else if aH c = false then 2 else if c.k = 1 then newR next l c else if c.k = 4 then 0
 else if c.k = 3∧betB c.q 1 1000000 = false then 7 else if plc l c.i < 0 then 9
 else match l[(plc l c.i).toNat]? with | some o=>if c.k = 3∧o.left ≤ c.q then 10 else 0 | none=>0
theorem same_form {k s t l q i:Int} {p:Nat} {g:ByteArray} (hk:k = 1 ∨ k = 2 ∨ k = 3 ∨ k = 4):aH ⟨k,s,t,l,q,i,p,g⟩ = (if k = 1 then aD ⟨1,s,t,l,q,0,p,g⟩ ⟨k,s,t,l,q,i,p,g⟩ else if k = 2 then aD ⟨2,0,0,0,0,i,0,⟨#[]⟩⟩ ⟨k,s,t,l,q,i,p,g⟩ else if k = 3 then aD ⟨3,0,0,0,q,i,0,⟨#[]⟩⟩ ⟨k,s,t,l,q,i,p,g⟩ else aD ⟨4,0,0,0,0,0,0,⟨#[]⟩⟩ ⟨k,s,t,l,q,i,p,g⟩):=by
 have hz:fbit 0 = 0:=by decide
 have he:(⟨#[]⟩:ByteArray).toList = []:=by unfold ByteArray.toList; rw [ByteArray.toList.loop]; rfl
 have hg:∀ x:List UInt8,decide ([] = x) = x.isEmpty:=by intro x; cases x <;> rfl
 rw [Bool.eq_iff_iff]
 rcases hk with rfl | rfl | rfl | rfl
 ·simp [aH,aD]; omega
 ·simp [aH,aD,hz,he]
  constructor
  ·rintro ⟨⟨G,D,h3,h4,h5⟩,h6⟩
   exact ⟨G.symm,D.symm,h3.symm,h6.symm,h4.symm,h5⟩
  ·rintro ⟨G,D,h3,h6,h4,h5⟩
   exact ⟨⟨G.symm,D.symm,h3.symm,h4.symm,h5⟩,h6.symm⟩
 ·simp [aH,aD,hz,he]
  constructor
  ·rintro ⟨G,D,h3,h4,h5⟩
   exact ⟨G.symm,D.symm,h3.symm,h4.symm,h5⟩
  ·rintro ⟨G,D,h3,h4,h5⟩
   exact ⟨G.symm,D.symm,h3.symm,h4.symm,h5⟩
 ·simp [aH,aD,hz,he]
  constructor
  ·rintro ⟨⟨G,D,h3,h4,h5⟩,h6,h7⟩
   exact ⟨G.symm,D.symm,h3.symm,h6.symm,h7.symm,h4.symm,h5⟩
  ·rintro ⟨G,D,h3,h6,h7,h4,h5⟩
   exact ⟨⟨G.symm,D.symm,h3.symm,h4.symm,h5⟩,h6.symm,h7.symm⟩
theorem ref_eq (next:Int) (l:List Od) (c:Cm):refS next l c = refR next l c:=by
 obtain ⟨k,s,t,li,q,i,p,g⟩:=c
 by_cases hk:k = 1 ∨ k = 2 ∨ k = 3 ∨ k = 4
 ·have O:betB k 1 4 = true:=by simp [betB]; omega
  have hf:=same_form (s:=s) (t:=t) (l:=li) (q:=q) (i:=i) (p:=p) (g:=g) hk
  unfold refS refR
  simp only [O,hf]
  rcases hk with rfl | rfl | rfl | rfl
  ·simp
   cases aD ⟨1,s,t,li,q,0,p,g⟩ ⟨1,s,t,li,q,i,p,g⟩ <;> simp
  ·simp
   cases aD ⟨2,0,0,0,0,i,0,⟨#[]⟩⟩ ⟨2,s,t,li,q,i,p,g⟩ <;> simp [idR]
   rcases dp l i with e | ⟨k,o,e,Z⟩
   ·rw [e]; rfl
   ·rw [e]; simp [Z]
  ·simp
   cases aD ⟨3,0,0,0,q,i,0,⟨#[]⟩⟩ ⟨3,s,t,li,q,i,p,g⟩ <;> simp [redR]
   cases betB q 1 1000000 <;> simp
   rcases dp l i with e | ⟨k,o,e,Z⟩
   ·rw [e]; rfl
   ·rw [e]; simp [Z]
  ·simp
   cases aD ⟨4,0,0,0,0,0,0,⟨#[]⟩⟩ ⟨4,s,t,li,q,i,p,g⟩ <;> simp
 ·have O:betB k 1 4 = false:=by
   cases h:betB k 1 4
   ·rfl
   ·simp [betB] at h; omega
  unfold refS refR
  simp only [O]
  simp
  rw [if_neg (by omega),if_neg (by omega),if_neg (by omega),if_neg (by omega)]
structure Inv (next:Int) (l:List Od):Prop where
 good:GoodL l
 side:∀ o ∈ l,o.side = 1 ∨ o.side = 2
 ids:∀ o ∈ l,o.id < next
theorem inv_start:Inv 1 []:=⟨⟨by simp,by simp,List.Pairwise.nil⟩,by simp,by simp⟩
theorem hit_ids {l:List Od} {k:Nat} {o:Od} {q:Int} (hk:l[k]? = some o) {b:Int} (h:∀ x ∈ l,x.id < b):∀ x ∈ aB l k o q,x.id < b:=by
 intro x hx
 rw [aB] at hx
 split at hx
 ·rcases List.mem_append.1 hx with G | G
  ·exact h x (List.mem_of_mem_take G)
  ·exact h x (List.mem_of_mem_drop G)
 ·rcases List.mem_or_eq_of_mem_set hx with G | rfl
  ·exact h x G
  ·exact h o (yM hk)
theorem matL_ids {c:Cm} {id b:Int}:∀ (n:Nat) (l:List Od) (left:Int) (ts:List Ev),aK l→GoodL l→0 ≤ left→left ≤ 1000000→(∀ x ∈ l,x.id < b)→∀ x ∈ (matL c id n l left ts).1,x.id < b:=by
 intro n
 induction n with
 | zero=>intro l left ts _ _ _ _ h x hx; exact h x hx
 | succ n ih =>
  intro l left ts hr hg h0 G h x hx
  rw [matL] at hx
  split at hx
  ·next xI =>
   split at hx
   ·exact h x hx
   ·next o hf =>
    split at hx
    ·obtain ⟨uZ,_⟩:=cT hf
     obtain ⟨k,hk⟩:=List.getElem?_of_mem uZ
     have hp:=plc_at hr hk
     have qT:(plc l o.id).toNat = k:=by rw [hp]; rfl
     rw [qT] at hx
     have Z:=hg.left o uZ
     have hgh:=cG hg hk (qty:=min left o.left) (by omega) (by omega)
     exact ih _ _ _ hgh.1.rise hgh.1 (by omega) (by omega) (hit_ids hk h) x hx
    ·exact h x hx
  ·exact h x hx
theorem inv_step {next:Int} {l:List Od} (c:Cm) (h:Inv next l) (h0:0 ≤ next) (G:next ≤ 1000000):Inv (stN next l c) (stL next l c)∧next ≤ stN next l c∧stN next l c ≤ next + 1:=by
 rw [stN,stL]
 by_cases hr:refR next l c = 0
 ·rw [if_pos hr]
  by_cases hk:c.k = 1
  ·rw [if_pos ⟨hr,hk⟩,if_pos hk]
   refine ⟨?_,by omega,by omega⟩
   have hq:=cJ hr hk
   have hn:=ref_new hr hk
   have hg:=bR (c:=c) (id:=next) 21 l c.q [] h.good (by omega) hq.2
   have hs:=matL_side (c:=c) (id:=next) 21 l c.q [] h.good.rise h.good (by omega) hq.2 h.side
   have hi:=matL_ids (c:=c) (id:=next) (b:=next) 21 l c.q [] h.good.rise h.good (by omega) hq.2 h.ids
   rw [newR] at hn
   split at hn
   ·cases hn
   rename_i uC
   split at hn
   ·cases hn
   split at hn
   ·cases hn
   split at hn
   ·cases hn
   split at hn
   ·cases hn
   split at hn
   ·cases hn
   have uC:c.s = 1 ∨ c.s = 2:=side_of (by simpa using uC)
   generalize matL c next 21 l c.q [] = qt at hg hs hi hn ⊢
   rw [accL]
   split
   ·next hre =>
    rw [matR] at hn
    split at hn
    ·cases hn
    split at hn
    ·cases hn
    split at hn
    ·cases hn
    rw [if_pos ⟨hre.2,hre.1⟩] at hn
    split at hn
    ·cases hn
    rename_i hfu
    have xC:(qt.1 ++ [{ ordO c next with left:=qt.2.1 }]).length ≤ 20:=by
     rcases Nat.lt_or_ge 20 (qt.1 ++ [{ ordO c next with left:=qt.2.1 }]).length with hh | hh
     ·exact absurd (show aV (qt.1 ++ [{ ordO c next with left:=qt.2.1 }]) = true by rw [aV]; exact if_pos hh) (by simpa using hfu)
     ·exact hh
    refine ⟨⟨by simpa using xC,?_,?_⟩,?_,?_⟩
    ·intro o Z
     rcases List.mem_append.1 Z with Z | Z
     ·exact hg.1.left o Z
     ·simp at Z; subst Z; exact ⟨hre.1,hg.2.2⟩
    ·refine List.pairwise_append.2 ⟨hg.1.rise,List.pairwise_singleton _ _,fun a ha b O=>?_⟩
     simp at O; subst O; exact hi a ha
    ·intro o Z
     rcases List.mem_append.1 Z with Z | Z
     ·exact hs o Z
     ·simp at Z; subst Z; exact uC
    ·intro o Z
     rcases List.mem_append.1 Z with Z | Z
     ·have:=hi o Z; omega
     ·simp at Z; subst Z; show next < next + 1; omega
   ·exact ⟨hg.1,hs,fun o Z=>by have:=hi o Z; omega⟩
  ·rw [if_neg (fun e=>hk e.2),if_neg hk]
   refine ⟨?_,by omega,by omega⟩
   by_cases hk2:c.k = 2
   ·rw [if_pos hk2]
    obtain ⟨k,o,hp,Z⟩:=ref_id hr (.inl hk2)
    have qT:(plc l c.i).toNat = k:=by rw [hp]; rfl
    simp only [qT,Z]
    have O:=h.good.left o (yM Z)
    exact ⟨(cG h.good Z (qty:=o.left) (by omega) (by omega)).1,hit_side Z h.side,hit_ids Z h.ids⟩
   ·rw [if_neg hk2]
    by_cases hk3:c.k = 3
    ·rw [if_pos hk3]
     obtain ⟨k,o,hp,Z⟩:=ref_id hr (.inr hk3)
     have qT:(plc l c.i).toNat = k:=by rw [hp]; rfl
     simp only [qT,Z]
     have hq:1 ≤ c.q∧c.q ≤ 1000000∧c.q < o.left:=by
      rw [refR,if_neg hk,if_neg hk2,if_pos hk3] at hr
      split at hr
      ·rw [redR] at hr
       split at hr
       ·next O =>
        rw [hp] at hr
        simp only [Int.toNat_natCast,Z] at hr
        split at hr
        ·cases hr
        ·split at hr
         ·cases hr
         ·have:1 ≤ c.q∧c.q ≤ 1000000:=by simpa [betB] using O
          omega
       ·cases hr
      ·cases hr
     have uZ:∀ x ∈ l.set k { o with left:=c.q },∃ y ∈ l,x.id = y.id∧x.side = y.side∧(x.left = y.left ∨ x.left = c.q):=by
      intro x hx
      rcases List.mem_or_eq_of_mem_set hx with G | rfl
      ·exact ⟨x,G,rfl,rfl,.inl rfl⟩
      ·exact ⟨o,yM Z,rfl,rfl,.inr rfl⟩
     refine ⟨⟨by simpa using h.good.len,?_,?_⟩,?_,?_⟩
     ·intro x hx
      obtain ⟨y,hy,_,_,h3⟩:=uZ x hx
      have:=h.good.left y hy
      rcases h3 with h3 | h3 <;> omega
     ·have jB:=h.good.rise
      rw [aK,List.pairwise_iff_getElem] at jB ⊢
      intro i j hi K pB
      have ql:i < l.length:=by simpa using hi
      have hj':j < l.length:=by simpa using K
      have pO:∀ i (hi:i < (l.set k { o with left:=c.q }).length),((l.set k { o with left:=c.q })[i]).id = (l[i]'(by simpa using hi)).id:=by
       intro i hi
       rw [List.getElem_set]
       split
       ·next e=>subst e; have:=yE.1 Z; obtain ⟨_,rfl⟩:=this; rfl
       ·rfl
      rw [pO i hi,pO j K]
      exact jB i j ql hj' pB
     ·intro x hx
      obtain ⟨y,hy,_,D,_⟩:=uZ x hx
      rw [D]; exact h.side y hy
     ·intro x hx
      obtain ⟨y,hy,D,_,_⟩:=uZ x hx
      rw [D]; exact h.ids y hy
    ·rw [if_neg hk3]
     have hsub:∀ x ∈ l.filter ndy,x ∈ l:=fun x hx=>(List.mem_filter.1 hx).1
     exact ⟨⟨yL (List.length_filter_le _ _) h.good.len,fun o Z=>h.good.left o (hsub o Z),List.Pairwise.filter _ h.good.rise⟩,fun o Z=>h.side o (hsub o Z),fun o Z=>h.ids o (hsub o Z)⟩
 ·rw [if_neg (fun e=>hr e.1),if_neg hr]
  exact ⟨h,by omega,by omega⟩
end Go.Proofs.YtbakanofkghmiaaGreat
