/-
  Whether the fields that a command's kind has not are zero, by the model: proved by walking the function.
-/
import Derived.Test.YthhkapcbocgcoaaGreatDoorGj24
import Derived.Maps.AppendAt
set_option linter.unusedVariables false
set_option maxHeartbeats 6400000
set_option maxRecDepth 100000
namespace Go.Proofs.YthhkapcbocgcoaaGreatDoor
open Go.RowKit
def cx (c:Cm):Bool :=
 if c.k = 1 then (c.i == 0) else if c.s ≠ 0 ∨ c.t ≠ 0 ∨ c.l ≠ 0 ∨ fbit c.p ≠ 0 ∨ c.g.toList.isEmpty = false then false else ((c.k == 3) || (c.q == 0)) && ((c.k != 4) || (c.i == 0))
theorem l04Form_any (c:Cm) (w:World) :
  Calls Tryz.prog 67 #[cmV c] w fun e w'=>e = ym (.bool (cx c))∧yn w w':=by
 obtain ⟨k,s,t,l,q,i,p,g⟩:=c
 unfold cmV
 simp only
 by_cases Q:k = 1
 ·subst Q
  have HK:Hid (cx ⟨1,s,t,l,q,i,p,g⟩ = (i == 0)):=by show _ = _; simp [cx]
  go_enter Tryz.func67,Tryz.ntmps67
  go_wp2_with fail
  go_ret
  exact ⟨zo (U HK).symm,by go_grown⟩
 have b1:(k == 1) = false:=by rw [xe]; exact Q
 by_cases hs:s = 0
 ·subst hs
  by_cases ht:t = 0
  ·subst ht
   by_cases hl:l = 0
   ·subst hl
    have HZ:=M (fun W=>l04Zero_any p W)
    have HFI:Hid (∀ z:Bool,decide (fbit p = 0) = z→cx ⟨k,0,0,0,q,i,p,g⟩ = if z = true then (if g.toList.isEmpty = false then false else ((k == 3) || (q == 0)) && ((k != 4) || (i == 0))) else false):=by
     intro z hz
     subst hz
     by_cases hp:fbit p = 0 <;> simp [cx,Q,hp]
    have HFJ:=M (U HFI _ rfl)
    generalize decide (fbit p = 0) = z at HZ HFJ
    clear HFI Q
    go_enter Tryz.func67,Tryz.ntmps67
    go_wp2_with fail
    refine (U HZ _).mono ?_
    rintro e w' ⟨rfl,rfl⟩
    cases z
    ·have HK:Hid (cx ⟨k,0,0,0,q,i,p,g⟩ = false):=U HFJ
     go_wp2_with fail
     go_ret
     exact ⟨zo (U HK).symm,by go_grown⟩
    ·have HFK:Hid (cx ⟨k,0,0,0,q,i,p,g⟩ = if g.toList.isEmpty = false then false else ((k == 3) || (q == 0)) && ((k != 4) || (i == 0))):=by
      show _ = _
      have:=U HFJ
      simpa using this
     clear HFJ HZ
     cases hg:g.toList.isEmpty
     ·have bg:(!g.toList.isEmpty) = true:=by rw [hg]; rfl
      have HK:Hid (cx ⟨k,0,0,0,q,i,p,g⟩ = false):=(U HFK).trans (if_pos hg)
      clear hg
      go_wp2_with fail
      go_ret
      exact ⟨zo (U HK).symm,by go_grown⟩
     have bg:(!g.toList.isEmpty) = false:=by rw [hg]; rfl
     have HFL:Hid (cx ⟨k,0,0,0,q,i,p,g⟩ = (((k == 3) || (q == 0)) && ((k != 4) || (i == 0)))):=(U HFK).trans (if_neg (by rw [hg]; simp))
     clear hg HFK
     by_cases X:k = 3
     ·subst X
      have HK:Hid (cx ⟨3,0,0,0,q,i,p,g⟩ = true):=(U HFL).trans (by simp)
      go_wp2_with fail
      go_ret
      exact ⟨zo (U HK).symm,by go_grown⟩
     have b3:(k == 3) = false:=by rw [xe]; exact X
     by_cases hq:q = 0
     ·subst hq
      by_cases h4:k = 4
      ·subst h4
       have HK:Hid (cx ⟨4,0,0,0,0,i,p,g⟩ = (i == 0)):=(U HFL).trans (by simp)
       clear X
       go_wp2_with fail
       go_ret
       exact ⟨zo (U HK).symm,by go_grown⟩
      ·have b4:(k != 4) = true:=by simpa using h4
       have HK:Hid (cx ⟨k,0,0,0,0,i,p,g⟩ = true):=(U HFL).trans (by simp [h4])
       clear X h4
       go_wp2_with fail
       go_ret
       exact ⟨zo (U HK).symm,by go_grown⟩
     ·have bq:(q == 0) = false:=by rw [xe]; exact hq
      have HK:Hid (cx ⟨k,0,0,0,q,i,p,g⟩ = false):=(U HFL).trans (by simp [X,hq])
      clear X hq
      go_wp2_with fail
      go_ret
      exact ⟨zo (U HK).symm,by go_grown⟩
   ·have HK:Hid (cx ⟨k,0,0,l,q,i,p,g⟩ = false):=by show _ = _; simp [cx,Q,hl]
    have bl:(l != 0) = true:=by simpa using hl
    clear Q hl
    go_enter Tryz.func67,Tryz.ntmps67
    go_wp2_with fail
    go_ret
    exact ⟨zo (U HK).symm,by go_grown⟩
  ·have HK:Hid (cx ⟨k,0,t,l,q,i,p,g⟩ = false):=by show _ = _; simp [cx,Q,ht]
   have bl:(t != 0) = true:=by simpa using ht
   clear Q ht
   go_enter Tryz.func67,Tryz.ntmps67
   go_wp2_with fail
   go_ret
   exact ⟨zo (U HK).symm,by go_grown⟩
 ·have HK:Hid (cx ⟨k,s,t,l,q,i,p,g⟩ = false):=by show _ = _; simp [cx,Q,hs]
  have bl:(s != 0) = true:=by simpa using hs
  clear Q hs
  go_enter Tryz.func67,Tryz.ntmps67
  go_wp2_with fail
  go_ret
  exact ⟨zo (U HK).symm,by go_grown⟩
end Go.Proofs.YthhkapcbocgcoaaGreatDoor
namespace Go.Proofs.YthhkapcbocgcoaaGreatDoor
open Go Ieee

theorem read_place {x:Nat} {s:Bool} {m:Nat} {i:Int} (h:double.read x = .number s m i):-1074 ≤ i:=by
 unfold Format.read at h
 simp only [bin,inf,sw,lp] at h
 split at h
 ·simp only [Datum.number.injEq] at h; omega
 ·split at h
  ·simp only [Datum.number.injEq] at h; omega
  ·split at h <;> cases h
theorem cut_pos {n drop:Nat} (h:2 ^ drop ≤ n):0 < Toward.even.cut false n drop:=by
 unfold Toward.cut
 simp only
 have hg:1 <<< min drop (n.log2 + 2) ≤ n:=by
  rw [Nat.one_shiftLeft]
  exact yO (Nat.pow_le_pow_right (by decide) (Nat.min_le_left _ _)) h
 have hp:0 < 1 <<< min drop (n.log2 + 2):=by rw [Nat.one_shiftLeft]; exact Nat.two_pow_pos _
 have:=Nat.div_pos hg hp
 omega
theorem near_pos {m:Nat} {i:Int} (hm:m ≠ 0) (hi:-1074 ≤ i):0 < double.nearest false (m * 4503599627370496) (i + -50):=by
 have hmag:¬ m * 4503599627370496 = 0:=by omega
 have hlog:=log_up hm
 have D:2 ^ (m.log2 + 52) ≤ m * 4503599627370496:=by
  have h:=((Nat.log2_eq_iff hm).1 rfl).1
  rw [Nat.pow_add,show (2:Nat) ^ 52 = 4503599627370496 from rfl]
  exact Nat.mul_le_mul_right _ h
 unfold Format.nearest
 rw [if_neg hmag]
 simp only [hlog,fb,lp,bin,inf,Format.word,Bool.false_eq_true,if_false]
 have hlast:i + -50 + ((m.log2 + 52:Nat):Int) - (52:Nat) ≤ max (i + -50 + ((m.log2 + 52:Nat):Int) - (52:Nat)) (-1074):=Int.le_max_left _ _
 have hup:max (i + -50 + ((m.log2 + 52:Nat):Int) - (52:Nat)) (-1074) ≤ i + -50 + ((m.log2 + 52:Nat):Int):=Int.max_le.2 ⟨by omega,by omega⟩
 generalize max (i + -50 + ((m.log2 + 52:Nat):Int) - (52:Nat)) (-1074) = last at *
 have e0:(i + -50 - last).toNat = 0:=by omega
 rw [e0,Nat.shiftLeft_zero]
 have hc:=cut_pos (n:=m * 4503599627370496) (drop:=(last - (i + -50)).toNat) (yO (Nat.pow_le_pow_right (by decide) (by omega)) D)
 generalize Toward.even.cut false (m * 4503599627370496) (last - (i + -50)).toNat = kept at *
 omega
theorem four_pos {x r:Nat} (h0:double.order x 0 = some .gt) (Q:double.order x 4687829947429945344 = some .lt ∨ double.order x 4687829947429945344 = some .eq) (hr:double.mul x 4616189618054758400 = some r):double.order 0 r ≠ some .eq:=by
 rcases above_zero h0 with hx | ⟨m,i,hx,hm⟩
 ·exfalso
  unfold Format.order at Q
  rw [hx,read_top] at Q
  simp [Datum.order] at Q
 ·have hw:=within hx hm Q
  have jN:double.mul x 4616189618054758400 = some (double.nearest false (m * 4503599627370496) (i + -50)):=by
   unfold Format.mul
   rw [hx,read_four]
   rfl
  rw [jN] at hr
  have hr:=Option.some.inj hr
  have vM:=near_pos hm (read_place hx)
  have xM:=near_le hm hw
  rw [hr] at vM xM
  clear hr jN
  have hneg:(r / 9223372036854775808 % 2 == 1) = false:=by simp; omega
  have vE:r % 9223372036854775808 = r:=by omega
  obtain ⟨m',i',e,hm'⟩:∃ m' i',double.read r = .number false m' i'∧m' ≠ 0:=by
   unfold Format.read
   simp only [bin,inf,sw,hneg,vE,lp]
   split
   ·exact ⟨_,_,rfl,by omega⟩
   ·rw [if_pos (by omega)]
    exact ⟨_,_,rfl,by omega⟩
  unfold Format.order
  rw [read_zero,e]
  simp only [Datum.order,ne_eq,Option.some.injEq]
  intro h
  have h:=Std.LawfulEqCmp.eq_of_compare h
  simp only [signed,Bool.false_eq_true,if_false,Nat.shiftLeft_eq,Nat.zero_mul] at h
  have xC:m' * 2 ^ (i' - min (-1074) i').toNat ≠ 0:=Nat.mul_ne_zero hm' (Nat.pos_iff_ne_zero.1 (Nat.two_pow_pos _))
  omega
end Go.Proofs.YthhkapcbocgcoaaGreatDoor
namespace Go.Proofs.YthhkapcbocgcoaaGreatDoor
open Go.RowKit
theorem float_nought:floatOfInt .f64 0 = 0:=by decide
theorem tkS_pos {x:Nat} (h:tkOk x = true):tkS x ≠ 0:=by
 rw [tkS_ok h]
 unfold tk
 rw [if_pos h]
 unfold tkOk at h
 simp only [xf,Bool.or_eq_true,beq_iff_eq] at h
 obtain ⟨⟨h0,Q⟩,D⟩:=h
 intro e
 rw [e,float_nought] at D
 obtain ⟨r,n,hm,_⟩:=price_four h0 Q
 have hr:tkR x = r:=by
  unfold tkR
  rw [show FloatKind.f64.format.mul x 4616189618054758400 = some r from hm]
  rfl
 rw [hr] at D
 exact four_pos h0 Q hm D
theorem fbit_zero {x:Nat} (h:fbit x = 0):x = 0:=by
 unfold fbit at h
 split at h
 ·omega
 ·exact h
theorem tkS_zero {x:Nat} (h:fbit x = 0):tkS x = 0:=by
 rw [fbit_zero h]
 decide
theorem side_of {s:Int} (h:betB s 1 2 = true):s = 1 ∨ s = 2:=by
 simp [betB] at h; omega
theorem oth_of {s:Int} (h:s = 1 ∨ s = 2):3 - s = othS s:=by
 rcases h with rfl | rfl <;> rfl
theorem cross_meet {c:Cm} (hp:prcB c = true) (o:Od):dy c.s (tkS c.p) o = cj c o:=by
 unfold prcB at hp
 by_cases D:c.t = 2
 ·rw [if_pos D] at hp
  rw [tkS_zero (of_decide_eq_true hp),dy,if_pos rfl,cj,if_pos D]
 ·rw [if_neg D] at hp
  rw [dy,if_neg (tkS_pos hp),cj,if_neg D,tkS_ok hp]
def NexS (l:List Od) (t:Od) (k:Int):Prop :=
 (k = -1∧(t.left = 0 ∨ bT l (othS t.side) = none ∨ ∃ o,bT l (othS t.side) = some o∧dy t.side t.ticks o = false)) ∨
 ∃ (i:Nat) (o:Od),k = i∧i < l.length∧l[i]? = some o∧bT l (othS t.side) = some o∧dy t.side t.ticks o = true∧t.left ≠ 0
theorem front_pre {l:List Od} {sd k:Int} (hr:cy l) (h:FrPre l sd l.length k):(k = -1∧bT l sd = none) ∨ ∃ (i:Nat) (o:Od),k = i∧i < l.length∧l[i]? = some o∧bT l sd = some o:=by
 rcases frPre_end h with ⟨rfl,qY⟩ | ⟨i,o,rfl,hi,pM⟩
 ·refine .inl ⟨rfl,?_⟩
  rcases fU (s:=decide (sd = 1)) (sd:=sd) hr with ⟨Q,_⟩ | ⟨j,o',Q,hf'⟩
  ·exact Q
  ·exact absurd hf'.2.1 (qY o' (yP hf'.1))
 ·refine .inr ⟨i,o,rfl,hi,pM.1,?_⟩
  rcases fU (s:=decide (sd = 1)) (sd:=sd) hr with ⟨_,qY⟩ | ⟨j,o',Q,hf'⟩
  ·exact absurd pM.2.1 (qY o (yP pM.1))
  ·rw [bT,Q,(front_unique hf' pM).2]
def fdyF:List Od→Nat→Int
 | [],_=>-1
 | o :: r,k=>if o.life = 1 then k else fdyF r (k + 1)
def fdy (l:List Od):Int:=fdyF l 0
theorem isOfDay_any (o:Od) (w:World) :
  Calls Tryz.prog 108 #[.agg (yw o.id o.side o.ticks o.left o.life o.tag).toArray] w fun e w'=>e = ym (.bool (o.life == 1))∧yn w w':=by
 obtain ⟨uH,side,ticks,left,life,tag⟩:=o
 simp only
 go_enter Tryz.func108,Tryz.ntmps108
 go_wp2_with fail
 go_ret
 exact ⟨rfl,by go_grown⟩
theorem indexDay_any (v:Value) (l:List Od) (w:World) (hr:RdR Od.vs 6 w v l) :
  Calls Tryz.prog 107 #[v,.func (.func 108) #[] #[]] w fun e w'=>e = ym (H (fdy l))∧yn w w':=by
 obtain ⟨a,cap,rfl,xD,hc⟩:=hr
 have xr:∀ (k:Nat) (c:Od),l[k]? = some c→∃ b off,a = some (J b off)∧b < w.heap.size∧w.rangeAt b (off + k * 6) c.vs:=by
  intro k c E
  obtain ⟨b,off,Q,D,X⟩:=hc (by intro h; rw [h] at E; simp at E)
  exact ⟨b,off,Q,D,X k c E⟩
 have HC:=M xr
 clear xr hc
 go_enter Tryz.func107,Tryz.ntmps107
 go_wp2_with fail
 go_loopw [8] (fun iv wr=>∃ (k:Nat),k ≤ l.length∧iv = H k∧Hid (fdy l = fdyF (l.drop k) k)∧yn w wr) (fun iv _=>l.length - (intOf iv).toNat)
 case atStart=>exact ⟨0,Nat.zero_le _,rfl,rfl,Below.refl _ _⟩
 case round =>
  obtain ⟨k,E,rfl,vD,xi⟩:=hrel
  have HB:=M xi
  clear xi
  by_cases xM:k < l.length
  ·obtain ⟨c,uV⟩:∃ c,l[k]? = some c:=⟨_,yI xM⟩
   have HP:Hid (fdy l = if c.life = 1 then (k:Int) else fdyF (l.drop (k + 1)) (k + 1)):=by
    have:=U vD
    rw [drop_get uV] at this
    exact this
   obtain ⟨b,off,rfl,A,xo⟩:=U HC k c uV
   obtain ⟨g0,g1,g2,g3,g4,g5⟩:=zC (zc xo (U HB) A)
   have vj:(k:Int) < l.length:=by omega
   clear uV xo A vD
   go_wp2_with fail
   refine (isOfDay_any c wr).mono ?_
   rintro e w3 ⟨rfl,xQ⟩
   have xG:=M (ia (U HB) xQ)
   clear xQ
   by_cases uN:c.life = 1
   ·have A:(c.life == 1) = true:=by simpa using uN
    have HK:Hid (fdy l = k):=by have:=U HP; rw [if_pos uN] at this; exact this
    clear uN
    go_wp2_with fail
    go_ret
    exact ⟨zw (U HK).symm,U xG⟩
   ·have A:(c.life == 1) = false:=by simpa using uN
    have HK:Hid (fdy l = fdyF (l.drop (k + 1)) (k + 1)):=by have:=U HP; rw [if_neg uN] at this; exact this
    clear uN
    go_wp2_with fail
    go_roundw
    case rel=>exact ⟨k + 1,by omega,by go_num,U HK,U xG⟩
    case measure=>simp [intOf]; omega
  ·have HK:Hid (fdy l = -1):=by
    have h:=U vD
    rw [xb (by omega)] at h
    exact h
   go_wp2_with fail
   go_ret
   exact ⟨zw (U HK).symm,U HB⟩
theorem isKind_any (c:Int) (a:Option Addr) (n cap:Nat) (w:World):Calls Tryz.prog 46 #[.agg #[H c,.slice a n cap]] w fun e w'=>e = .returned (.bool (decide (0 < n)))∧yn w w':=by
 go_enter Tryz.func46,Tryz.ntmps46
 go_wp2_with fail
 go_ret
 exact ⟨rfl,by go_grown⟩
theorem bel_gr {w W:World} (h:yn w W) (R:Nat):w.grownBy W (some R):=⟨h.os,h.tape,h.output,h.size,fun i hi _=>h.block i hi⟩
theorem gr_bel {w W V:World} {R:Nat} (h:w.grownBy W (some R)) (D:yn W V):w.grownBy V (some R):=zA h (bel_gr D R)
theorem ff_gr {hR o R:Nat} {W W':World} {c:Fc} (h:FF W hR o c) (A:W.grownBy W' (some R)) (F:R < hR):FF W' hR o c:=by
 unfold FF at h ⊢
 split
 ·rwa [if_pos ‹_›] at h
 ·rw [if_neg ‹_›] at h
  split
  ·rwa [if_pos ‹_›] at h
  ·rw [if_neg ‹_›] at h
   obtain ⟨b,Q,D,X,h4⟩:=h
   exact ⟨b,Q,D,yK X A.size,A.cell h4 (by simp; omega)⟩
theorem event_any (wb:World) (R:Nat) (v:Value) (l:List Int) (k:Nat) (w:World) (hs:RSr wb R v l k w) :
  Calls Tryz.prog 92 #[.pointer (some ⟨R,0,none⟩)] w fun e w'=>EvEnd R v w (evA l k) e w':=by
 have hsf:=sfl
 have hsfn:=sfn
 have hRw:=hs.lt
 have xD:(l.length:Int) ≤ 65536:=by have:=hs.ll; omega
 have pP:=hs.kk
 have xU:Hid (yn w (w.alloc (O (yv 0 0 0 0 0 0 0 0 ⟨#[]⟩ 0 0 0 0 0).toArray 37))):=gZ _ _
 have vw:=M (zy w (yv 0 0 0 0 0 0 0 0 ⟨#[]⟩ 0 0 0 0 0) 37)
 have aB:=M (hs.below (U xU) hRw)
 have jI:Hid ((w.alloc (O (yv 0 0 0 0 0 0 0 0 ⟨#[]⟩ 0 0 0 0 0).toArray 37)).heap.size = w.heap.size + 1):=by show _ = _; simp
 have HS:=M hs
 clear hs
 rw [show (yv 0 0 0 0 0 0 0 0 ⟨#[]⟩ 0 0 0 0 0).toArray = (yv 0 0 0 0 0 0 0 0 ⟨#[]⟩ 0 0 0 0 0).toArray from rfl] at vw
 obtain ⟨a,cap,hv⟩:=rd_len (U HS).rd
 go_enter Tryz.func92,Tryz.ntmps92
 go_wp2_with fail
 generalize (w.alloc (O (yv 0 0 0 0 0 0 0 0 ⟨#[]⟩ 0 0 0 0 0).toArray 37)) = W1 at xU vw aB jI ⊢
 by_cases uU:l.length ≤ k
 ·have HE:=M (evA_end uU)
  have HR:=M (hv ▸ (U aB).r)
  refine (take_end R 1 k a l.length cap _ (U HR) (by omega) (by omega) (by omega) (by omega) (by omega)).mono ?_
  rintro e w1 ⟨rfl,q,rfl⟩
  go_wp2_with fail
  exact ⟨rfl,evEnd_fail (zA (bel_gr (U xU) R) (cS _ _ _)) (U HE) _⟩
 clear hv
 obtain ⟨b,off,jJ,rfl,oD,uq,xr⟩:∃ b off jJ,v = .slice (some ⟨b,off,none⟩) l.length jJ∧b < wb.heap.size∧l.length ≤ jJ∧W1.cell? ⟨b,off + k,none⟩ = some (.int .u8 (l.getD k 0)):=by
  obtain ⟨a',c',hv',_,hc⟩:=(U aB).rd
  obtain ⟨b,off,rfl,xr⟩:=hc (by intro h; rw [h] at uU; simp at uU)
  have ub:=yL wb _ (xr 0 (by omega))
  exact ⟨b,off,c',hv',ub,(U aB).cap _ _ _ hv',((U aB).bel.cell (p:=⟨b,off + k,none⟩) ub).trans (xr k (by omega))⟩
 have HR:=M (U aB).r
 refine (take_ok R 1 k b off l.length jJ _ (U HR) (by omega) (by omega) uq (by omega)).mono ?_
 rintro e w2 ⟨rfl,q,rfl⟩
 have pN:=zA (ei W1 ⟨R,1,none⟩ (H ((k + 1:Nat):Int))) (cS _ q _)
 have uo:=M (zA (bel_gr (U xU) R) pN)
 have vZ:=M ((U aB).go pN (((U aB).r.step ((k + 1:Nat):Int)).drewN q) (by omega))
 have xW:=M (cE (U vw) (pN.block w.heap.size (by rw [U jI]; omega) (by simp; omega)))
 have HZ2:Hid (w.heap.size < ((W1.setCell ⟨R,1,none⟩ (H ((k + 1:Nat):Int))).drewN q).heap.size):=yK (by rw [U jI]; omega) pN.size
 have oE:=pN.cell xr (by have:=(U aB).le; simp; omega)
 have hbt:=bts_get (U HS).bb k
 have HSh:=M (fun (h:shF (l.getD k 0) = [])=>evA_no (by omega) h)
 have HYe:=M (fun (h:shF (l.getD k 0) ≠ [])=>evA_yes (by omega) h)
 clear pN aB vw xU HR xr jI HS
 generalize (W1.setCell ⟨R,1,none⟩ (H ((k + 1:Nat):Int))).drewN q = W2 at uo vZ xW HZ2 oE ⊢
 generalize l.getD k 0 = kd at *
 obtain ⟨oG,hk1⟩:=hbt
 go_wp2_with fail
 refine (shape_any kd W2).mono ?_
 rintro e W3 ⟨fv,fs,rfl,hof,hff,xQ⟩
 have uM:=U HZ2
 have vC:=(ffs_get hff).1
 have qW:=M hof
 have HF3:=M hff
 have hS3:=(U vZ).below xQ (U vZ).lt
 have jV:=zl (U xW) xQ uM
 have hG3:=gr_bel (U uo) xQ
 have hz3:=yK uM xQ.size
 obtain ⟨fa,kQ,rfl,hfl,ur⟩:=hof
 obtain ⟨xy,xE⟩:=ie W3 [H (shC kd),.slice fa fs.length kQ] 95
 have oe:=M (hS3.below xy hS3.lt)
 have HX4r:=M (zl jV xy hz3)
 have uk:=M (gr_bel hG3 xy)
 have oa:=M (ownR_below (U qW) xy hU)
 have HF4:=M (fun (o:Nat) (c:Fc) (h:FF W3 W2.heap.size o c)=>fH h xy hU)
 have HZ4:Hid (W3.heap.size < (W3.alloc (O #[H (shC kd),.slice fa fs.length kQ] 95)).heap.size):=by show _ < _; simp
 rw [show [H (shC kd),.slice fa fs.length kQ].toArray = #[H (shC kd),.slice fa fs.length kQ] from rfl] at xE
 clear hff xQ hS3 jV hG3 ur xy vZ xW uo qW
 go_wp2_with fail
 generalize (W3.alloc (O #[H (shC kd),.slice fa fs.length kQ] 95)) = W4 at xE oe HX4r uk oa HF4 HZ4 ⊢
 refine (isKind_any (shC kd) fa fs.length kQ W4).mono ?_
 rintro e W5 ⟨rfl,uj⟩
 have hz4:=U HZ4
 have HS5:=M ((U oe).below uj (U oe).lt)
 have HX5r:=M (zl (U HX4r) uj (by omega))
 have qX:=M (zl (U xE) uj hz4)
 have uu:=M (gr_bel (U uk) uj)
 have ax:=M (ownR_below (U oa) uj hU)
 have HF5:=M (fun (o:Nat) (c:Fc) (h:FF W3 W2.heap.size o c)=>fH (U HF4 o c h) uj hU)
 have HZ5:=M (yK hz4 uj.size)
 clear uj oe HX4r xE uk oa HF4 HZ4 hz4
 by_cases xC:fs.length = 0
 ·have HE:=M (U HSh (List.length_eq_zero_iff.1 (vC.trans xC)))
  have HR:=M (U HS5).r
  rw [xC]
  go_wp2_with fail
  refine (et R 3 _ _ _ (U HR)).mono ?_
  rintro e w6 ⟨rfl,rfl⟩
  go_wp2_with fail
  exact ⟨rfl,evEnd_fail (U uu) (U HE) _⟩
 have vM:decide (0 < fs.length) = true:=by simpa using Nat.pos_of_ne_zero xC
 have c50:=zb (U qX) 0 rfl
 rw [vM]
 have HYE:=M (U HYe (by intro h; rw [h] at vC; exact xC vC.symm))
 have jW:=gZ W5 (O (yv kd (shC kd) 0 0 0 0 0 0 ⟨#[]⟩ 0 0 0 0 0).toArray 37)
 have uT:Hid (Bx (W5.alloc (O (yv kd (shC kd) 0 0 0 0 0 0 ⟨#[]⟩ 0 0 0 0 0).toArray 37)) W5.heap.size (ev0 kd).vs):=zy W5 (ev0 kd).vs 37
 have HS6:=M ((U HS5).below jW (U HS5).lt)
 have qE:=M (bel_gr jW R)
 have c51:=zb (zl (U qX) jW (U HZ5)) 1 rfl
 clear jW vM
 go_wp2_with fail
 generalize (W5.alloc (O (yv kd (shC kd) 0 0 0 0 0 0 ⟨#[]⟩ 0 0 0 0 0).toArray 37)) = W6 at uT HS6 qE c51 ⊢
 go_loopw [28] (fun iv wr=>∃ (i n:Nat) (x:Ev),iv = H i∧i ≤ fs.length∧W5.grownBy wr (some R)∧RSr wb R (.slice (some ⟨b,off,none⟩) l.length jJ) l n wr∧Bx wr W5.heap.size x.vs∧rdEs ((shF kd).drop i) x l n = evA l k) (fun iv _=>fs.length - (intOf iv).toNat)
 case atStart=>exact ⟨0,k + 1,ev0 kd,rfl,Nat.zero_le _,U qE,U HS6,U uT,(U HYE).symm⟩
 case round =>
  obtain ⟨i,n,x,rfl,hi,hg,hs,hx,xN⟩:=hrel
  have HG:=M hg
  have HS:=M hs
  have HX:=M hx
  have qh:=M xN
  clear hg hs hx xN
  by_cases xM:i < fs.length
  ·obtain ⟨c,hic⟩:∃ c,fs[i]? = some c:=⟨_,yI xM⟩
   obtain ⟨o,jC,pM⟩:=(ffs_get (U HF3)).2 i c hic
   have hfo5:=U HF5 o c pM
   obtain ⟨a7,c7,e7,_,ur⟩:=U ax
   simp only [Value.slice.injEq] at e7
   obtain ⟨rfl,_,rfl⟩:=e7
   obtain ⟨g,rfl,hg0,je,ua,_⟩:=ur (by intro h; rw [h] at xM; simp at xM)
   have hR5:=(U HS5).lt
   have hRF:R < W2.heap.size:=Nat.lt_trans hRw (U HZ2)
   have uZ:g ≠ R:=by omega
   have q0:=(U HG).cell (ua i c hic 0 _ rfl) (by simp; omega)
   have q1:=(U HG).cell (ua i c hic 1 _ rfl) (by simp; omega)
   simp only [Nat.zero_add,Nat.add_zero] at q0 q1
   have hen:=fun args V=>(field_enter _ o c W5 hfo5 args V).1
   have hEV:=shF_evO kd o (yP jC)
   have vj:(i:Int) < fs.length:=by omega
   have hd:=xd (show i < (shF kd).length by rw [vC]; exact xM)
   rw [(yH.1 jC).2] at hd
   obtain ⟨n1,n2,cl⟩:=c
   have qv:=gZ wr (O #[.func (.func n1) #[] cl,.func (.func n2) #[] cl] 136)
   have hEw:W5.heap.size < wr.heap.size:=by
    obtain ⟨y,hy⟩:=Option.isSome_iff_exists.1 ((U HX).t 0 (by rw [Ev.len]; decide)).1
    exact yL wr _ hy
   have HCT:=M (readField_any wb w W2.heap.size R W5.heap.size o ⟨n1,n2,cl⟩ _ l n x.vs _ ((U HS).below qv (U HS).lt) (zl (U HX) qv hEw) hR5 (Ev.len x) hEV (fH (ff_gr hfo5 (U HG) hRF) qv hU) hRF)
   have bw:=M (gr_bel (U HG) qv)
   have HD:=M hd
   have jo:=M hEV
   clear ua hic jC pM hfo5 hd qv hEV
   simp only at hen HCT
   go_wp2_with fail
   refine (U HCT).mono ?_
   rintro e w7 hFd
   cases hg:rdF o l n with
   | none =>
    obtain ⟨p,rfl⟩:=hFd.2.2 hg
    have HE:=M (((U qh).symm.trans (by rw [U HD])).trans (rdEs_none (os:=(shF kd).drop (i + 1)) (e:=x) hg))
    have qP:=M (zA (U uu) (gr2_on (U bw) hFd.1 hU))
    clear hFd hg
    go_wp2_with fail
    exact ⟨rfl,evEnd_fail (U qP) (U HE) _⟩
   | some y =>
    obtain ⟨y,m⟩:=y
    obtain ⟨rfl,hs7,hx7⟩:=hFd.2.1 y m hg
    have HE:=M (((U qh).symm.trans (by rw [U HD])).trans (rdEs_some (os:=(shF kd).drop (i + 1)) (e:=x) hg))
    have qP:=M (gr2_on (U bw) hFd.1 hU)
    rw [evs_put x (U jo) (rdF_ty hg)] at hx7
    have HS7:=M hs7
    have HX7:=M hx7
    clear hFd hg hs7 hx7
    go_wp2_with fail
    go_roundw
    case rel=>exact ⟨i + 1,m,x.put o y,by go_num,by omega,U qP,U HS7,U HX7,(U HE).symm⟩
    case measure=>simp [intOf]; omega
  ·have qD:i = fs.length:=by omega
   have HE:Hid (evA l k = some (x,n)):=by
    show evA l k = _
    rw [← U qh,List.drop_eq_nil_of_le (by omega)]
    rfl
   have oL:=U HX
   obtain ⟨xn,⟨ck,cs,ct,cl,cq,ci,cp,cg⟩,id,xl,qty,xm,xk⟩:=x
   have d0:=zb oL 0 rfl
   have d1:=zb oL 1 rfl
   have d2:=zb oL 2 rfl
   have d3:=zb oL 3 rfl
   have d4:=zb oL 4 rfl
   have d5:=zb oL 5 rfl
   have d6:=zb oL 6 rfl
   have d7:=zb oL 7 rfl
   have d8:=zb oL 8 rfl
   have d9:=zb oL 9 rfl
   have pf:=zb oL 10 rfl
   have pg:=zb oL 11 rfl
   have ph:=zb oL 12 rfl
   have pj:=zb oL 13 rfl
   have uB:=M (cE (U HX5r) ((U HG).block w.heap.size (Nat.lt_trans hz3 (U HZ5)) (by simp; omega)))
   have HRN:=M (U HS).r
   have HGW:=M (zA (U uu) (U HG))
   clear oL qh
   have z0:=zb (U uB) 0 rfl
   have f0:=zd (U uB) 0 (by decide)
   have z1:=zb (U uB) 1 rfl
   have f1:=zd (U uB) 1 (by decide)
   have z2:=zb (U uB) 2 rfl
   have f2:=zd (U uB) 2 (by decide)
   have z3:=zb (U uB) 3 rfl
   have f3:=zd (U uB) 3 (by decide)
   have z4:=zb (U uB) 4 rfl
   have f4:=zd (U uB) 4 (by decide)
   have z5:=zb (U uB) 5 rfl
   have f5:=zd (U uB) 5 (by decide)
   have z6:=zb (U uB) 6 rfl
   have f6:=zd (U uB) 6 (by decide)
   have z7:=zb (U uB) 7 rfl
   have f7:=zd (U uB) 7 (by decide)
   have z8:=zb (U uB) 8 rfl
   have f8:=zd (U uB) 8 (by decide)
   have z9:=zb (U uB) 9 rfl
   have f9:=zd (U uB) 9 (by decide)
   have pV:=zb (U uB) 10 rfl
   have f10:=zd (U uB) 10 (by decide)
   have pW:=zb (U uB) 11 rfl
   have f11:=zd (U uB) 11 (by decide)
   have pX:=zb (U uB) 12 rfl
   have f12:=zd (U uB) 12 (by decide)
   have pY:=zb (U uB) 13 rfl
   have f13:=zd (U uB) 13 (by decide)
   clear qX HX5r ax HF5 c50 c51 uT HS6 qE oE HS5 HX
   go_wp2_with fail
   rw [set14]
   have xY:=M (zB (us:=(yv xn ck cs ct cl cq ci cp cg id xl qty xm xk)) (U uB) rfl)
   have HQ:=M (evEnd_done (gr_setCells (yv xn ck cs ct cl cq ci cp cg id xl qty xm xk) (U HGW) (Nat.le_refl w.heap.size)) (U HE) (rdr_setCells (yv xn ck cs ct cl cq ci cp cg id xl qty xm xk) (U HRN) (by omega)))
   clear z0 f0 z1 f1 z2 f2 z3 f3 z4 f4 z5 f5 z6 f6 z7 f7 z8 f8 z9 f9 pV f10 pW f11 pX f12 pY f13 d0 d1 d2 d3 d4 d5 d6 d7 d8 d9 pf pg ph pj uB
   generalize (wr.setCells w.heap.size 0 (yv xn ck cs ct cl cq ci cp cg id xl qty xm xk)) = WF at xY HQ ⊢
   obtain ⟨d0,d1,d2,d3,d4,d5,d6,d7,d8,d9,pf,pg,ph,pj⟩:=yz (U xY)
   refine bodyPost_ret (v:=evV ⟨xn,⟨ck,cs,ct,cl,cq,ci,cp,cg⟩,id,xl,qty,xm,xk⟩) ?_ rfl (U HQ)
   simp [results,Tryz.f92,go_sem,d0,d1,d2,d3,d4,d5,d6,d7,d8,d9,pf,pg,ph,pj,evV]
abbrev BRow (W:World) (B:Nat) (v:Value) (l:List Int):Prop:=W.ownsRow B 5 1 v l.length (l.map (Value.int .u8))
theorem fT {W W':World} {B:Nat} {v:Value} {l:List Int} (h:BRow W B v l) (A:yn W W'):BRow W' B v l :=
 World.ownsRow.kept h (row:=none) ⟨A.os,A.tape,A.output,A.size,fun k E _=>A.block k E⟩ (by cases v.ownBlock <;> simp)
theorem bRow_more {W:World} {B:Nat} {v:Value} {l m:List Int} (h:W.ownsRow B 5 1 v (l.length + m.length) (l.map (Value.int .u8) ++ m.map (Value.int .u8))):BRow W B v (l ++ m):=by
 show W.ownsRow _ _ _ _ (l ++ m).length _
 rw [yQ,List.map_append]; exact h
theorem bRow_own {W:World} {B:Nat} {v:Value} {l:List Int} (h:BRow W B v l) (xC:0 < l.length) (hl:l.length ≤ 1073741824):OwnT B W v l:=ownT_row xC hl h
theorem gT {P:Program} (w:World) {ops:Array Oper} {rest:List Oper} {o:Oper} {a:Act} {h1:Exit→Act→World→Prop} (hgd:o.guard = none) (s x:Operand) (t:TypeId)
  (Y:o.op = .call { callee:=.builtin .append,args:=#[s,x],argTypes:=#[t,t] })
  (B:Nat) (i:TypeInfo) (ht:P.underlying t = some (.slice 5)) (hi:P.info? 5 = some i) (hz:i.zero = some (.int .u8 0)) (jE:i.size = 1) (hby:i.bytes = 1)
  (v:Value) (l:List Int) (hs:a.eval s = v) (xS:BRow w B v l) (C:Nat) (vx:Value) (m:List Int) (hx:a.eval x = vx) (hr:OwnT C w vx m)
  (A:l.length + m.length ≤ 1073741824) (hB:B ≤ w.heap.size)
  (h:∀ v' w',BRow w' B v' (l ++ m)→w.grownBy w' v.ownBlock→(v'.ownBlock = v.ownBlock ∨ v'.ownBlock = some w.heap.size)→wpList P ops h1 rest (a.put o.dst v') w'):wpList P ops h1 (o :: rest) a w:=by
 obtain ⟨g,cap,xz,tt,rfl,_,hg,_,_,_,hl,pT⟩:=hr
 refine wpList_append_own_at w hgd s x t Y B 5 i (.int .u8 0) 1 1 ht hi hz jE hby rfl (by decide) v l.length (l.map (Value.int .u8)) hs xS (J g 0) m.length cap (m.map (Value.int .u8)) hx (by simp) (fun j u hj=>?_) (fun u hu=>?_)
  (by unfold maxLen; omega) (by omega) hB (fun v' w' Q D _ h4=>h v' w' (bRow_more Q) D h4)
 ·have hj':j < m.length:=by
   rcases Nat.lt_or_ge j m.length with h | h
   ·exact h
   ·rw [List.getElem?_eq_none (by simpa using h)] at hj; cases hj
  rw [List.getElem?_map,yI hj'] at hj
  have e:((J g 0):Addr).add j = (J g j):=by unfold Addr.add; split <;> simp_all
  rw [e,cell_head hg pT hj']
  simpa [hj'] using hj
 ·obtain ⟨y,_,rfl⟩:=List.mem_map.1 hu
  rfl
end Go.Proofs.YthhkapcbocgcoaaGreatDoor
