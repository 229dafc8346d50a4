/-
  The reasons of the model and of the program, held against each other; no function walked.
-/
import Derived.Test.YtdfihaabhichdaaGreatSj35
namespace Go.Proofs.YtdfihaabhichdaaGreat
open Go.RowKit
set_option linter.unusedVariables false

theorem hit_side {l:List Od} {k:Nat} {o:Od} {q:Int} (hk:l[k]? = some o) (hs:∀ x ∈ l,x.side = 1 ∨ x.side = 2):∀ x ∈ zav l k o q,x.side = 1 ∨ x.side = 2:=by
 intro x hx
 unfold zav at hx
 split at hx
 ·rcases List.mem_append.1 hx with h | h
  ·exact hs x (List.mem_of_mem_take h)
  ·exact hs x (List.mem_of_mem_drop h)
 ·rcases List.mem_or_eq_of_mem_set hx with h | rfl
  ·exact hs x h
  ·exact hs o (List.mem_of_getElem? hk)
theorem matL_side {c:Cm} {id:Int}:∀ (n:Nat) (l:List Od) (left:Int) (ts:List Ev),zbi l→GoodL l→0 ≤ left→left ≤ 1000000→(∀ x ∈ l,x.side = 1 ∨ x.side = 2)→∀ x ∈ (matL c id n l left ts).1,x.side = 1 ∨ x.side = 2
 | 0,l,left,ts,_,_,_,_,hs=>hs
 | n + 1,l,left,ts,hr,hg,h0,h1,hs=>by
  rw [matL]
  by_cases hl:0 < left
  ·rw [if_pos hl]
   cases hf:zaz l (othS c.s) with
   | none=>exact hs
   | some o =>
    simp only
    by_cases hm:zcG c o = true
    ·rw [if_pos hm]
     obtain ⟨hmem,_⟩:=front_mem hf
     obtain ⟨k,hk⟩:=List.getElem?_of_mem hmem
     have ho:=hg.left o hmem
     rw [plc_at hr hk,Int.toNat_natCast]
     have hg2:=(good_hit hg hk (qty:=min left o.left) (by omega) (by omega)).1
     exact matL_side n _ _ _ hg2.rise hg2 (by omega) (by omega) (hit_side hk hs)
    ·rw [if_neg hm]; exact hs
  ·rw [if_neg hl]; exact hs
def fullS (l:List Od) (t:Od):Bool:=decide (l.length = 20) || decide (8 < nlev (l ++ [t]))
theorem full_eq {l:List Od} {t:Od} (hl:l.length ≤ 20) (hs:∀ x ∈ l ++ [t],x.side = 1 ∨ x.side = 2):fullB (l ++ [t]) = fullS l t:=by
 unfold fullB fullS
 have hn:=nlev_eq hs (zbS true _) (zbS false _)
 by_cases h:l.length = 20
 ·rw [if_pos (by simp; omega)]; simp [h]
 ·rw [if_neg (by simp; omega),zaA,zaA,List.length_map,List.length_map,hn]
  simp only [h,decide_false,Bool.false_or]
  rw [Bool.eq_iff_iff]
  simp only [decide_eq_true_eq]
  omega
def matS (next:Int) (c:Cm) (F:List Od × Int × List Ev):Int :=
 if c.t = 5∧0 < F.2.2.length then 11 else if c.t = 4∧0 < F.2.1 then 12 else if next = 1000000 then 13
 else if zaM c.t = true then (if 0 < F.2.1 then (if F.1.length = 20 then 13 else if 8 < nlev (F.1 ++ [⟨next,c.s,tkS c.p,F.2.1,c.l,c.g⟩]) then 13 else 0) else 0) else 0
theorem matS_eq {next:Int} {c:Cm} {l:List Od} (hg:GoodL l) (hsd:∀ x ∈ l,x.side = 1 ∨ x.side = 2) (hs:betB c.s 1 2 = true) (hp:prcB c = true) (hq:betB c.q 1 1000000 = true):matS next c (matL c next 21 l c.q []) = matR next c (matL c next 21 l c.q []):=by
 have hq':1 ≤ c.q∧c.q ≤ 1000000:=by simpa [betB] using hq
 have hgood:=zbz (c:=c) (id:=next) 21 l c.q [] hg (by omega) (by omega)
 have hside:=matL_side (c:=c) (id:=next) 21 l c.q [] hg.rise hg (by omega) (by omega) hsd
 generalize matL c next 21 l c.q [] = F at *
 unfold matS matR
 by_cases h1:c.t = 5∧0 < F.2.2.length
 ·rw [if_pos h1,if_pos h1]
 rw [if_neg h1,if_neg h1]
 by_cases h2:c.t = 4∧0 < F.2.1
 ·rw [if_pos h2,if_pos h2]
 rw [if_neg h2,if_neg h2]
 by_cases h3:next = 1000000
 ·rw [if_pos h3,if_pos h3]
 rw [if_neg h3,if_neg h3]
 by_cases h4:zaM c.t = true
 ·by_cases h5:0 < F.2.1
  ·rw [if_pos h4,if_pos h5,if_pos (show zaM c.t = true∧0 < F.2.1 from ⟨h4,h5⟩)]
   have ht2:c.t ≠ 2:=by
    intro e; rw [e] at h4; exact absurd h4 (by decide)
   have hok:tkOk c.p = true:=by unfold prcB at hp; rw [if_neg ht2] at hp; exact hp
   have ho:({ ordO c next with left:=F.2.1 }:Od) = ⟨next,c.s,tkS c.p,F.2.1,c.l,c.g⟩:=by
    unfold ordO; rw [tkS_ok hok]
   rw [ho]
   have hfe:=full_eq (l:=F.1) (t:=⟨next,c.s,tkS c.p,F.2.1,c.l,c.g⟩) hgood.1.len (fun x hx=>by
    rcases List.mem_append.1 hx with h | h
    ·exact hside x h
    ·simp at h; subst h; exact side_of hs)
   rw [hfe]
   unfold fullS
   by_cases h6:F.1.length = 20
   ·simp [h6]
   ·by_cases h7:8 < nlev (F.1 ++ [⟨next,c.s,tkS c.p,F.2.1,c.l,c.g⟩])
    ·simp [h6,h7]
    ·simp [h6,h7]
  ·rw [if_pos h4,if_neg h5,if_neg (by simp [h5])]
 ·rw [if_neg h4,if_neg (by simp [h4])]
def refS (next:Int) (l:List Od) (c:Cm):Int :=
 if betB c.k 1 4 = false then 1 else if zba c = false then 2 else if c.k = 1 then newR next l c else if c.k = 4 then 0
 else if c.k = 3∧betB c.q 1 1000000 = false then 7 else if plc l c.i < 0 then 9
 else match l[(plc l c.i).toNat]? with | some o=>if c.k = 3∧o.left ≤ c.q then 10 else 0 | none=>0
theorem same_form {k s t l q i:Int} {p:Nat} {g:ByteArray} (hk:k = 1 ∨ k = 2 ∨ k = 3 ∨ k = 4):zba ⟨k,s,t,l,q,i,p,g⟩ = (if k = 1 then zay ⟨1,s,t,l,q,0,p,g⟩ ⟨k,s,t,l,q,i,p,g⟩ else if k = 2 then zay ⟨2,0,0,0,0,i,0,⟨#[]⟩⟩ ⟨k,s,t,l,q,i,p,g⟩ else if k = 3 then zay ⟨3,0,0,0,q,i,0,⟨#[]⟩⟩ ⟨k,s,t,l,q,i,p,g⟩ else zay ⟨4,0,0,0,0,0,0,⟨#[]⟩⟩ ⟨k,s,t,l,q,i,p,g⟩):=by
 have hz:fbit 0 = 0:=by decide
 have he:(⟨#[]⟩:ByteArray).toList = []:=by unfold ByteArray.toList; rw [ByteArray.toList.loop]; rfl
 have hg:∀ x:List UInt8,decide ([] = x) = x.isEmpty:=by intro x; cases x <;> rfl
 rw [Bool.eq_iff_iff]
 rcases hk with rfl | rfl | rfl | rfl
 ·simp [zba,zay]; omega
 ·simp [zba,zay,hz,he]
  constructor
  ·rintro ⟨⟨h1,h2,h3,h4,h5⟩,h6⟩
   exact ⟨h1.symm,h2.symm,h3.symm,h6.symm,h4.symm,h5⟩
  ·rintro ⟨h1,h2,h3,h6,h4,h5⟩
   exact ⟨⟨h1.symm,h2.symm,h3.symm,h4.symm,h5⟩,h6.symm⟩
 ·simp [zba,zay,hz,he]
  constructor
  ·rintro ⟨h1,h2,h3,h4,h5⟩
   exact ⟨h1.symm,h2.symm,h3.symm,h4.symm,h5⟩
  ·rintro ⟨h1,h2,h3,h4,h5⟩
   exact ⟨h1.symm,h2.symm,h3.symm,h4.symm,h5⟩
 ·simp [zba,zay,hz,he]
  constructor
  ·rintro ⟨⟨h1,h2,h3,h4,h5⟩,h6,h7⟩
   exact ⟨h1.symm,h2.symm,h3.symm,h6.symm,h7.symm,h4.symm,h5⟩
  ·rintro ⟨h1,h2,h3,h6,h7,h4,h5⟩
   exact ⟨⟨h1.symm,h2.symm,h3.symm,h4.symm,h5⟩,h6.symm,h7.symm⟩
theorem ref_eq (next:Int) (l:List Od) (c:Cm):refS next l c = refR next l c:=by
 obtain ⟨k,s,t,li,q,i,p,g⟩:=c
 by_cases hk:k = 1 ∨ k = 2 ∨ k = 3 ∨ k = 4
 ·have hb:betB k 1 4 = true:=by simp [betB]; omega
  have hf:=same_form (s:=s) (t:=t) (l:=li) (q:=q) (i:=i) (p:=p) (g:=g) hk
  unfold refS refR
  simp only [hb,hf]
  rcases hk with rfl | rfl | rfl | rfl
  ·simp
   cases zay ⟨1,s,t,li,q,0,p,g⟩ ⟨1,s,t,li,q,i,p,g⟩ <;> simp
  ·simp
   cases zay ⟨2,0,0,0,0,i,0,⟨#[]⟩⟩ ⟨2,s,t,li,q,i,p,g⟩ <;> simp [idR]
   rcases zcl l i with e | ⟨k,o,e,ho⟩
   ·rw [e]; rfl
   ·rw [e]; simp [ho]
  ·simp
   cases zay ⟨3,0,0,0,q,i,0,⟨#[]⟩⟩ ⟨3,s,t,li,q,i,p,g⟩ <;> simp [redR]
   cases betB q 1 1000000 <;> simp
   rcases zcl l i with e | ⟨k,o,e,ho⟩
   ·rw [e]; rfl
   ·rw [e]; simp [ho]
  ·simp
   cases zay ⟨4,0,0,0,0,0,0,⟨#[]⟩⟩ ⟨4,s,t,li,q,i,p,g⟩ <;> simp
 ·have hb:betB k 1 4 = false:=by
   cases h:betB k 1 4
   ·rfl
   ·simp [betB] at h; omega
  unfold refS refR
  simp only [hb]
  simp
  rw [if_neg (by omega),if_neg (by omega),if_neg (by omega),if_neg (by omega)]
end Go.Proofs.YtdfihaabhichdaaGreat
