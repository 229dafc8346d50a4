/-
  The prices of the model and of the program, held against each other; no function walked.
-/
import Derived.Test.YtfoabgghlnjjoaaGreatRj29
import Derived.Test.YtfoabgghlnjjoaaGreatRj30
namespace Go.Proofs.YtfoabgghlnjjoaaGreat
open Go.RowKit
set_option linter.unusedVariables false

theorem float_nought:floatOfInt .f64 0 = 0:=by decide
theorem tkS_pos {x:Nat} (h:tkOk x = true):tkS x ≠ 0:=by
 rw [tkS_ok h]
 unfold tk
 rw [if_pos h]
 unfold tkOk at h
 simp only [Bool.and_eq_true,Bool.or_eq_true,beq_iff_eq] at h
 obtain ⟨⟨h0,h1⟩,h2⟩:=h
 intro e
 rw [e,float_nought] at h2
 obtain ⟨r,n,hm,_⟩:=price_four h0 h1
 have hr:tkR x = r:=by
  unfold tkR
  rw [show FloatKind.f64.format.mul x 4616189618054758400 = some r from hm]
  rfl
 rw [hr] at h2
 exact four_pos h0 h1 hm h2
theorem fbit_zero {x:Nat} (h:fbit x = 0):x = 0:=by
 unfold fbit at h
 split at h
 ·omega
 ·exact h
theorem tkS_zero {x:Nat} (h:fbit x = 0):tkS x = 0:=by
 rw [fbit_zero h]
 decide
theorem side_of {s:Int} (h:betB s 1 2 = true):s = 1 ∨ s = 2:=by
 simp [betB] at h; omega
theorem oth_of {s:Int} (h:s = 1 ∨ s = 2):3 - s = othS s:=by
 rcases h with rfl | rfl <;> rfl
theorem cross_meet {c:Cm} (hp:prcB c = true) (o:Od):zbx c.s (tkS c.p) o = zco c o:=by
 unfold prcB at hp
 by_cases h2:c.t = 2
 ·rw [if_pos h2] at hp
  rw [tkS_zero (of_decide_eq_true hp),zbx,if_pos rfl,zco,if_pos h2]
 ·rw [if_neg h2] at hp
  rw [zbx,if_neg (tkS_pos hp),zco,if_neg h2,tkS_ok hp]
def NexS (l:List Od) (t:Od) (k:Int):Prop :=
 (k = -1∧(t.left = 0 ∨ zaC l (othS t.side) = none ∨ ∃ o,zaC l (othS t.side) = some o∧zbx t.side t.ticks o = false)) ∨
 ∃ (i:Nat) (o:Od),k = i∧i < l.length∧l[i]? = some o∧zaC l (othS t.side) = some o∧zbx t.side t.ticks o = true∧t.left ≠ 0
theorem front_pre {l:List Od} {sd k:Int} (hr:zbe l) (h:FrPre l sd l.length k):(k = -1∧zaC l sd = none) ∨ ∃ (i:Nat) (o:Od),k = i∧i < l.length∧l[i]? = some o∧zaC l sd = some o:=by
 rcases frPre_end h with ⟨rfl,hno⟩ | ⟨i,o,rfl,hi,hfo⟩
 ·refine .inl ⟨rfl,?_⟩
  rcases front_head (s:=decide (sd = 1)) (sd:=sd) hr with ⟨h1,_⟩ | ⟨j,o',h1,hf'⟩
  ·exact h1
  ·exact absurd hf'.2.1 (hno o' (List.mem_of_getElem? hf'.1))
 ·refine .inr ⟨i,o,rfl,hi,hfo.1,?_⟩
  rcases front_head (s:=decide (sd = 1)) (sd:=sd) hr with ⟨_,hno⟩ | ⟨j,o',h1,hf'⟩
  ·exact absurd hfo.2.1 (hno o (List.mem_of_getElem? hfo.1))
  ·rw [zaC,h1,(front_unique hf' hfo).2]
end Go.Proofs.YtfoabgghlnjjoaaGreat
namespace Go.Proofs.YtfoabgghlnjjoaaGreat
open Go.RowKit
set_option linter.unusedVariables false

theorem hit_side {l:List Od} {k:Nat} {o:Od} {q:Int} (hk:l[k]? = some o) (hs:∀ x ∈ l,x.side = 1 ∨ x.side = 2):∀ x ∈ zas l k o q,x.side = 1 ∨ x.side = 2:=by
 intro x hx
 unfold zas at hx
 split at hx
 ·rcases List.mem_append.1 hx with h | h
  ·exact hs x (List.mem_of_mem_take h)
  ·exact hs x (List.mem_of_mem_drop h)
 ·rcases List.mem_or_eq_of_mem_set hx with h | rfl
  ·exact hs x h
  ·exact hs o (List.mem_of_getElem? hk)
theorem matL_side {c:Cm} {id:Int}:∀ (n:Nat) (l:List Od) (left:Int) (ts:List Ev),zbe l→GoodL l→0 ≤ left→left ≤ 1000000→(∀ x ∈ l,x.side = 1 ∨ x.side = 2)→∀ x ∈ (matL c id n l left ts).1,x.side = 1 ∨ x.side = 2
 | 0,l,left,ts,_,_,_,_,hs=>hs
 | n + 1,l,left,ts,hr,hg,h0,h1,hs=>by
  rw [matL]
  by_cases hl:0 < left
  ·rw [if_pos hl]
   cases hf:zaC l (othS c.s) with
   | none=>exact hs
   | some o =>
    simp only
    by_cases hm:zco c o = true
    ·rw [if_pos hm]
     obtain ⟨hmem,_⟩:=front_mem hf
     obtain ⟨k,hk⟩:=List.getElem?_of_mem hmem
     have ho:=hg.left o hmem
     rw [plc_at hr hk,Int.toNat_natCast]
     have hg2:=(good_hit hg hk (qty:=min left o.left) (by omega) (by omega)).1
     exact matL_side n _ _ _ hg2.rise hg2 (by omega) (by omega) (hit_side hk hs)
    ·rw [if_neg hm]; exact hs
  ·rw [if_neg hl]; exact hs
def fullS (l:List Od) (t:Od):Bool:=decide (l.length = 20) || decide (8 < nlev (l ++ [t]))
theorem full_eq {l:List Od} {t:Od} (hl:l.length ≤ 20) (hs:∀ x ∈ l ++ [t],x.side = 1 ∨ x.side = 2):fullB (l ++ [t]) = fullS l t:=by
 unfold fullB fullS
 have hn:=nlev_eq hs (zcn true _) (zcn false _)
 by_cases h:l.length = 20
 ·rw [if_pos (by simp; omega)]; simp [h]
 ·rw [if_neg (by simp; omega),zbi,zbi,List.length_map,List.length_map,hn]
  simp only [h,decide_false,Bool.false_or]
  rw [Bool.eq_iff_iff]
  simp only [decide_eq_true_eq]
  omega
def matS (next:Int) (c:Cm) (F:List Od × Int × List Ev):Int :=
 if c.t = 5∧0 < F.2.2.length then 11 else if c.t = 4∧0 < F.2.1 then 12 else if next = 1000000 then 13
 else if zaM c.t = true then (if 0 < F.2.1 then (if F.1.length = 20 then 13 else if 8 < nlev (F.1 ++ [⟨next,c.s,tkS c.p,F.2.1,c.l,c.g⟩]) then 13 else 0) else 0) else 0
theorem matS_eq {next:Int} {c:Cm} {l:List Od} (hg:GoodL l) (hsd:∀ x ∈ l,x.side = 1 ∨ x.side = 2) (hs:betB c.s 1 2 = true) (hp:prcB c = true) (hq:betB c.q 1 1000000 = true):matS next c (matL c next 21 l c.q []) = matR next c (matL c next 21 l c.q []):=by
 have hq':1 ≤ c.q∧c.q ≤ 1000000:=by simpa [betB] using hq
 have hgood:=zbc (c:=c) (id:=next) 21 l c.q [] hg (by omega) (by omega)
 have hside:=matL_side (c:=c) (id:=next) 21 l c.q [] hg.rise hg (by omega) (by omega) hsd
 generalize matL c next 21 l c.q [] = F at *
 unfold matS matR
 by_cases h1:c.t = 5∧0 < F.2.2.length
 ·rw [if_pos h1,if_pos h1]
 rw [if_neg h1,if_neg h1]
 by_cases h2:c.t = 4∧0 < F.2.1
 ·rw [if_pos h2,if_pos h2]
 rw [if_neg h2,if_neg h2]
 by_cases h3:next = 1000000
 ·rw [if_pos h3,if_pos h3]
 rw [if_neg h3,if_neg h3]
 by_cases h4:zaM c.t = true
 ·by_cases h5:0 < F.2.1
  ·rw [if_pos h4,if_pos h5,if_pos (show zaM c.t = true∧0 < F.2.1 from ⟨h4,h5⟩)]
   have ht2:c.t ≠ 2:=by
    intro e; rw [e] at h4; exact absurd h4 (by decide)
   have hok:tkOk c.p = true:=by unfold prcB at hp; rw [if_neg ht2] at hp; exact hp
   have ho:({ ordO c next with left:=F.2.1 }:Od) = ⟨next,c.s,tkS c.p,F.2.1,c.l,c.g⟩:=by
    unfold ordO; rw [tkS_ok hok]
   rw [ho]
   have hfe:=full_eq (l:=F.1) (t:=⟨next,c.s,tkS c.p,F.2.1,c.l,c.g⟩) hgood.1.len (fun x hx=>by
    rcases List.mem_append.1 hx with h | h
    ·exact hside x h
    ·simp at h; subst h; exact side_of hs)
   rw [hfe]
   unfold fullS
   by_cases h6:F.1.length = 20
   ·simp [h6]
   ·by_cases h7:8 < nlev (F.1 ++ [⟨next,c.s,tkS c.p,F.2.1,c.l,c.g⟩])
    ·simp [h6,h7]
    ·simp [h6,h7]
  ·rw [if_pos h4,if_neg h5,if_neg (by simp [h5])]
 ·rw [if_neg h4,if_neg (by simp [h4])]
def refS (next:Int) (l:List Od) (c:Cm):Int :=
 if betB c.k 1 4 = false then 1 else if zaX c = false then 2 else if c.k = 1 then newR next l c else if c.k = 4 then 0
 else if c.k = 3∧betB c.q 1 1000000 = false then 7 else if plc l c.i < 0 then 9
 else match l[(plc l c.i).toNat]? with | some o=>if c.k = 3∧o.left ≤ c.q then 10 else 0 | none=>0
theorem same_form {k s t l q i:Int} {p:Nat} {g:ByteArray} (hk:k = 1 ∨ k = 2 ∨ k = 3 ∨ k = 4):zaX ⟨k,s,t,l,q,i,p,g⟩ = (if k = 1 then zaB ⟨1,s,t,l,q,0,p,g⟩ ⟨k,s,t,l,q,i,p,g⟩ else if k = 2 then zaB ⟨2,0,0,0,0,i,0,⟨#[]⟩⟩ ⟨k,s,t,l,q,i,p,g⟩ else if k = 3 then zaB ⟨3,0,0,0,q,i,0,⟨#[]⟩⟩ ⟨k,s,t,l,q,i,p,g⟩ else zaB ⟨4,0,0,0,0,0,0,⟨#[]⟩⟩ ⟨k,s,t,l,q,i,p,g⟩):=by
 have hz:fbit 0 = 0:=by decide
 have he:(⟨#[]⟩:ByteArray).toList = []:=by unfold ByteArray.toList; rw [ByteArray.toList.loop]; rfl
 have hg:∀ x:List UInt8,decide ([] = x) = x.isEmpty:=by intro x; cases x <;> rfl
 rw [Bool.eq_iff_iff]
 rcases hk with rfl | rfl | rfl | rfl
 ·simp [zaX,zaB]; omega
 ·simp [zaX,zaB,hz,he]
  constructor
  ·rintro ⟨⟨h1,h2,h3,h4,h5⟩,h6⟩
   exact ⟨h1.symm,h2.symm,h3.symm,h6.symm,h4.symm,h5⟩
  ·rintro ⟨h1,h2,h3,h6,h4,h5⟩
   exact ⟨⟨h1.symm,h2.symm,h3.symm,h4.symm,h5⟩,h6.symm⟩
 ·simp [zaX,zaB,hz,he]
  constructor
  ·rintro ⟨h1,h2,h3,h4,h5⟩
   exact ⟨h1.symm,h2.symm,h3.symm,h4.symm,h5⟩
  ·rintro ⟨h1,h2,h3,h4,h5⟩
   exact ⟨h1.symm,h2.symm,h3.symm,h4.symm,h5⟩
 ·simp [zaX,zaB,hz,he]
  constructor
  ·rintro ⟨⟨h1,h2,h3,h4,h5⟩,h6,h7⟩
   exact ⟨h1.symm,h2.symm,h3.symm,h6.symm,h7.symm,h4.symm,h5⟩
  ·rintro ⟨h1,h2,h3,h6,h7,h4,h5⟩
   exact ⟨⟨h1.symm,h2.symm,h3.symm,h4.symm,h5⟩,h6.symm,h7.symm⟩
theorem ref_eq (next:Int) (l:List Od) (c:Cm):refS next l c = refR next l c:=by
 obtain ⟨k,s,t,li,q,i,p,g⟩:=c
 by_cases hk:k = 1 ∨ k = 2 ∨ k = 3 ∨ k = 4
 ·have hb:betB k 1 4 = true:=by simp [betB]; omega
  have hf:=same_form (s:=s) (t:=t) (l:=li) (q:=q) (i:=i) (p:=p) (g:=g) hk
  unfold refS refR
  simp only [hb,hf]
  rcases hk with rfl | rfl | rfl | rfl
  ·simp
   cases zaB ⟨1,s,t,li,q,0,p,g⟩ ⟨1,s,t,li,q,i,p,g⟩ <;> simp
  ·simp
   cases zaB ⟨2,0,0,0,0,i,0,⟨#[]⟩⟩ ⟨2,s,t,li,q,i,p,g⟩ <;> simp [idR]
   rcases zbW l i with e | ⟨k,o,e,ho⟩
   ·rw [e]; rfl
   ·rw [e]; simp [ho]
  ·simp
   cases zaB ⟨3,0,0,0,q,i,0,⟨#[]⟩⟩ ⟨3,s,t,li,q,i,p,g⟩ <;> simp [redR]
   cases betB q 1 1000000 <;> simp
   rcases zbW l i with e | ⟨k,o,e,ho⟩
   ·rw [e]; rfl
   ·rw [e]; simp [ho]
  ·simp
   cases zaB ⟨4,0,0,0,0,0,0,⟨#[]⟩⟩ ⟨4,s,t,li,q,i,p,g⟩ <;> simp
 ·have hb:betB k 1 4 = false:=by
   cases h:betB k 1 4
   ·rfl
   ·simp [betB] at h; omega
  unfold refS refR
  simp only [hb]
  simp
  rw [if_neg (by omega),if_neg (by omega),if_neg (by omega),if_neg (by omega)]
end Go.Proofs.YtfoabgghlnjjoaaGreat
namespace Go.Proofs.YtfoabgghlnjjoaaGreat
open Go.RowKit
set_option linter.unusedVariables false

structure Inv (next:Int) (l:List Od):Prop where
  good:GoodL l
  side:∀ o ∈ l,o.side = 1 ∨ o.side = 2
  ids:∀ o ∈ l,o.id < next
theorem inv_start:Inv 1 []:=⟨⟨by simp,by simp,List.Pairwise.nil⟩,by simp,by simp⟩
theorem hit_ids {l:List Od} {k:Nat} {o:Od} {q:Int} (hk:l[k]? = some o) {b:Int} (h:∀ x ∈ l,x.id < b):∀ x ∈ zas l k o q,x.id < b:=by
  intro x hx
  rw [zas] at hx
  split at hx
  · rcases List.mem_append.1 hx with h1 | h1
    · exact h x (List.mem_of_mem_take h1)
    · exact h x (List.mem_of_mem_drop h1)
  · rcases List.mem_or_eq_of_mem_set hx with h1 | rfl
    · exact h x h1
    · exact h o (List.mem_of_getElem? hk)
theorem matL_ids {c:Cm} {id b:Int}:∀ (n:Nat) (l:List Od) (left:Int) (ts:List Ev),zbe l→GoodL l→0 ≤ left→left ≤ 1000000→(∀ x ∈ l,x.id < b)→∀ x ∈ (matL c id n l left ts).1,x.id < b:=by
  intro n
  induction n with
  | zero=>intro l left ts _ _ _ _ h x hx; exact h x hx
  | succ n ih =>
    intro l left ts hr hg h0 h1 h x hx
    rw [matL] at hx
    split at hx
    · next hlt =>
      split at hx
      · exact h x hx
      · next o hf =>
        split at hx
        · obtain ⟨hmem,_⟩:=front_mem hf
          obtain ⟨k,hk⟩:=List.getElem?_of_mem hmem
          have hp:=plc_at hr hk
          have hpt:(plc l o.id).toNat = k:=by rw [hp]; rfl
          rw [hpt] at hx
          have ho:=hg.left o hmem
          have hgh:=good_hit hg hk (qty:=min left o.left) (by omega) (by omega)
          exact ih _ _ _ hgh.1.rise hgh.1 (by omega) (by omega) (hit_ids hk h) x hx
        · exact h x hx
    · exact h x hx
theorem inv_step {next:Int} {l:List Od} (c:Cm) (h:Inv next l) (h0:0 ≤ next) (h1:next ≤ 1000000):Inv (stN next l c) (stL next l c)∧next ≤ stN next l c∧stN next l c ≤ next + 1:=by
  rw [stN,stL]
  by_cases hr:refR next l c = 0
  · rw [if_pos hr]
    by_cases hk:c.k = 1
    · rw [if_pos ⟨hr,hk⟩,if_pos hk]
      refine ⟨?_,by omega,by omega⟩
      have hq:=zbB hr hk
      have hn:=ref_new hr hk
      have hg:=zbc (c:=c) (id:=next) 21 l c.q [] h.good (by omega) hq.2
      have hs:=matL_side (c:=c) (id:=next) 21 l c.q [] h.good.rise h.good (by omega) hq.2 h.side
      have hi:=matL_ids (c:=c) (id:=next) (b:=next) 21 l c.q [] h.good.rise h.good (by omega) hq.2 h.ids
      rw [newR] at hn
      split at hn
      · cases hn
      rename_i hsd
      split at hn
      · cases hn
      split at hn
      · cases hn
      split at hn
      · cases hn
      split at hn
      · cases hn
      split at hn
      · cases hn
      have hsd:c.s = 1 ∨ c.s = 2:=side_of (by simpa using hsd)
      generalize matL c next 21 l c.q [] = F at hg hs hi hn ⊢
      rw [accL]
      split
      · next hre =>
        rw [matR] at hn
        split at hn
        · cases hn
        split at hn
        · cases hn
        split at hn
        · cases hn
        rw [if_pos ⟨hre.2,hre.1⟩] at hn
        split at hn
        · cases hn
        rename_i hfu
        have hlen:(F.1 ++ [{ ordO c next with left:=F.2.1 }]).length ≤ 20:=by
          rcases Nat.lt_or_ge 20 (F.1 ++ [{ ordO c next with left:=F.2.1 }]).length with hh | hh
          · exact absurd (show fullB (F.1 ++ [{ ordO c next with left:=F.2.1 }]) = true by rw [fullB]; exact if_pos hh) (by simpa using hfu)
          · exact hh
        refine ⟨⟨by simpa using hlen,?_,?_⟩,?_,?_⟩
        · intro o ho
          rcases List.mem_append.1 ho with ho | ho
          · exact hg.1.left o ho
          · simp at ho; subst ho; exact ⟨hre.1,hg.2.2⟩
        · refine List.pairwise_append.2 ⟨hg.1.rise,List.pairwise_singleton _ _,fun a ha b hb=>?_⟩
          simp at hb; subst hb; exact hi a ha
        · intro o ho
          rcases List.mem_append.1 ho with ho | ho
          · exact hs o ho
          · simp at ho; subst ho; exact hsd
        · intro o ho
          rcases List.mem_append.1 ho with ho | ho
          · have:=hi o ho; omega
          · simp at ho; subst ho; show next < next + 1; omega
      · exact ⟨hg.1,hs,fun o ho=>by have:=hi o ho; omega⟩
    · rw [if_neg (fun e=>hk e.2),if_neg hk]
      refine ⟨?_,by omega,by omega⟩
      by_cases hk2:c.k = 2
      · rw [if_pos hk2]
        obtain ⟨k,o,hp,ho⟩:=ref_id hr (.inl hk2)
        have hpt:(plc l c.i).toNat = k:=by rw [hp]; rfl
        simp only [hpt,ho]
        have hb:=h.good.left o (List.mem_of_getElem? ho)
        exact ⟨(good_hit h.good ho (qty:=o.left) (by omega) (by omega)).1,hit_side ho h.side,hit_ids ho h.ids⟩
      · rw [if_neg hk2]
        by_cases hk3:c.k = 3
        · rw [if_pos hk3]
          obtain ⟨k,o,hp,ho⟩:=ref_id hr (.inr hk3)
          have hpt:(plc l c.i).toNat = k:=by rw [hp]; rfl
          simp only [hpt,ho]
          have hq:1 ≤ c.q∧c.q ≤ 1000000∧c.q < o.left:=by
            rw [refR,if_neg hk,if_neg hk2,if_pos hk3] at hr
            split at hr
            · rw [redR] at hr
              split at hr
              · next hb =>
                rw [hp] at hr
                simp only [Int.toNat_natCast,ho] at hr
                split at hr
                · cases hr
                · split at hr
                  · cases hr
                  · have:1 ≤ c.q∧c.q ≤ 1000000:=by simpa [betB] using hb
                    omega
              · cases hr
            · cases hr
          have hmem:∀ x ∈ l.set k { o with left:=c.q },∃ y ∈ l,x.id = y.id∧x.side = y.side∧(x.left = y.left ∨ x.left = c.q):=by
            intro x hx
            rcases List.mem_or_eq_of_mem_set hx with h1 | rfl
            · exact ⟨x,h1,rfl,rfl,.inl rfl⟩
            · exact ⟨o,List.mem_of_getElem? ho,rfl,rfl,.inr rfl⟩
          refine ⟨⟨by simpa using h.good.len,?_,?_⟩,?_,?_⟩
          · intro x hx
            obtain ⟨y,hy,_,_,h3⟩:=hmem x hx
            have:=h.good.left y hy
            rcases h3 with h3 | h3 <;> omega
          · have hr1:=h.good.rise
            rw [zbe,List.pairwise_iff_getElem] at hr1 ⊢
            intro i j hi hj hij
            have hi':i < l.length:=by simpa using hi
            have hj':j < l.length:=by simpa using hj
            have key:∀ i (hi:i < (l.set k { o with left:=c.q }).length),((l.set k { o with left:=c.q })[i]).id = (l[i]'(by simpa using hi)).id:=by
              intro i hi
              rw [List.getElem_set]
              split
              · next e=>subst e; have:=List.getElem?_eq_some_iff.1 ho; obtain ⟨_,rfl⟩:=this; rfl
              · rfl
            rw [key i hi,key j hj]
            exact hr1 i j hi' hj' hij
          · intro x hx
            obtain ⟨y,hy,_,h2,_⟩:=hmem x hx
            rw [h2]; exact h.side y hy
          · intro x hx
            obtain ⟨y,hy,h2,_,_⟩:=hmem x hx
            rw [h2]; exact h.ids y hy
        · rw [if_neg hk3]
          have hsub:∀ x ∈ l.filter ndy,x ∈ l:=fun x hx=>(List.mem_filter.1 hx).1
          exact ⟨⟨Nat.le_trans (List.length_filter_le _ _) h.good.len,fun o ho=>h.good.left o (hsub o ho),List.Pairwise.filter _ h.good.rise⟩,fun o ho=>h.side o (hsub o ho),fun o ho=>h.ids o (hsub o ho)⟩
  · rw [if_neg (fun e=>hr e.1),if_neg hr]
    exact ⟨h,by omega,by omega⟩
end Go.Proofs.YtfoabgghlnjjoaaGreat
