/-
  The reasons of the model and of the program, held against each other; no function walked.
-/
import Derived.Test.YtdliebbfcmdmaaaGreatMj27
set_option linter.unusedVariables false
set_option maxHeartbeats 6400000
set_option maxRecDepth 100000
namespace Go.Proofs.YtdliebbfcmdmaaaGreat
open Go.RowKit
theorem hit_side {l:List Od} {k:Nat} {o:Od} {q:Int} (hk:l[k]? = some o) (hs:∀ x ∈ l,x.side = 1 ∨ x.side = 2):∀ x ∈ az l k o q,x.side = 1 ∨ x.side = 2:=by
 intro x hx
 unfold az at hx
 split at hx
 ·rcases List.mem_append.1 hx with h | h
  ·exact hs x (List.mem_of_mem_take h)
  ·exact hs x (List.mem_of_mem_drop h)
 ·rcases List.mem_or_eq_of_mem_set hx with h | rfl
  ·exact hs x h
  ·exact hs o (yO hk)
theorem matL_side {c:Cm} {id:Int}:∀ (n:Nat) (l:List Od) (left:Int) (ts:List Ev),ba l→GoodL l→0 ≤ left→left ≤ 1000000→(∀ x ∈ l,x.side = 1 ∨ x.side = 2)→∀ x ∈ (matL c id n l left ts).1,x.side = 1 ∨ x.side = 2
 | 0,l,left,ts,_,_,_,_,hs=>hs
 | n + 1,l,left,ts,hr,hg,h0,Q,hs=>by
  rw [matL]
  by_cases hl:0 < left
  ·rw [if_pos hl]
   cases hf:aJ l (othS c.s) with
   | none=>exact hs
   | some o =>
    simp only
    by_cases hm:aO c o = true
    ·rw [if_pos hm]
     obtain ⟨vn,_⟩:=de hf
     obtain ⟨k,hk⟩:=List.getElem?_of_mem vn
     have Z:=hg.left o vn
     rw [plc_at hr hk,Int.toNat_natCast]
     have vN:=(cM hg hk (qty:=min left o.left) (by omega) (by omega)).1
     exact matL_side n _ _ _ vN.rise vN (by omega) (by omega) (hit_side hk hs)
    ·rw [if_neg hm]; exact hs
  ·rw [if_neg hl]; exact hs
def fullS (l:List Od) (t:Od):Bool:=decide (l.length = 20) || decide (8 < nlev (l ++ [t]))
theorem full_eq {l:List Od} {t:Od} (hl:l.length ≤ 20) (hs:∀ x ∈ l ++ [t],x.side = 1 ∨ x.side = 2):aU (l ++ [t]) = fullS l t:=by
 unfold aU fullS
 have hn:=nlev_eq hs (cQ true _) (cQ false _)
 by_cases h:l.length = 20
 ·rw [if_pos (by simp; omega)]; simp [h]
 ·rw [if_neg (by simp; omega),aE,aE,List.length_map,List.length_map,hn]
  simp only [h,decide_false,Bool.false_or]
  rw [Bool.eq_iff_iff]
  simp only [xh]
  omega
def matS (next:Int) (c:Cm) (qt:List Od × Int × List Ev):Int :=
 if c.t = 5∧0 < qt.2.2.length then 11 else if c.t = 4∧0 < qt.2.1 then 12 else if next = 1000000 then 13
 else if aA c.t = true then (if 0 < qt.2.1 then (if qt.1.length = 20 then 13 else if 8 < nlev (qt.1 ++ [⟨next,c.s,tkS c.p,qt.2.1,c.l,c.g⟩]) then 13 else 0) else 0) else 0
theorem matS_eq {next:Int} {c:Cm} {l:List Od} (hg:GoodL l) (uF:∀ x ∈ l,x.side = 1 ∨ x.side = 2) (hs:betB c.s 1 2 = true) (hp:prcB c = true) (hq:betB c.q 1 1000000 = true):matS next c (matL c next 21 l c.q []) = matR next c (matL c next 21 l c.q []):=by
 have hq':1 ≤ c.q∧c.q ≤ 1000000:=by simpa [betB] using hq
 have hgood:=bV (c:=c) (id:=next) 21 l c.q [] hg (by omega) (by omega)
 have hside:=matL_side (c:=c) (id:=next) 21 l c.q [] hg.rise hg (by omega) (by omega) uF
 generalize matL c next 21 l c.q [] = qt at *
 unfold matS matR
 by_cases Q:c.t = 5∧0 < qt.2.2.length
 ·rw [if_pos Q,if_pos Q]
 rw [if_neg Q,if_neg Q]
 by_cases N:c.t = 4∧0 < qt.2.1
 ·rw [if_pos N,if_pos N]
 rw [if_neg N,if_neg N]
 by_cases h3:next = 1000000
 ·rw [if_pos h3,if_pos h3]
 rw [if_neg h3,if_neg h3]
 by_cases h4:aA c.t = true
 ·by_cases h5:0 < qt.2.1
  ·rw [if_pos h4,if_pos h5,if_pos (show aA c.t = true∧0 < qt.2.1 from ⟨h4,h5⟩)]
   have jo:c.t ≠ 2:=by
    intro e; rw [e] at h4; exact absurd h4 (by decide)
   have vH:tkOk c.p = true:=by unfold prcB at hp; rw [if_neg jo] at hp; exact hp
   have Z:({ ordO c next with left:=qt.2.1 }:Od) = ⟨next,c.s,tkS c.p,qt.2.1,c.l,c.g⟩:=by
    unfold ordO; rw [tkS_ok vH]
   rw [Z]
   have hfe:=full_eq (l:=qt.1) (t:=⟨next,c.s,tkS c.p,qt.2.1,c.l,c.g⟩) hgood.1.len (fun x hx=>by
    rcases List.mem_append.1 hx with h | h
    ·exact hside x h
    ·simp at h; subst h; exact side_of hs)
   rw [hfe]
   unfold fullS
   by_cases h6:qt.1.length = 20
   ·simp [h6]
   ·by_cases h7:8 < nlev (qt.1 ++ [⟨next,c.s,tkS c.p,qt.2.1,c.l,c.g⟩])
    ·simp [h6,h7]
    ·simp [h6,h7]
  ·rw [if_pos h4,if_neg h5,if_neg (by simp [h5])]
 ·rw [if_neg h4,if_neg (by simp [h4])]
def refS (next:Int) (l:List Od) (c:Cm):Int :=
 if betB c.k 1 4 = false then 1 else if aK c = false then 2 else if c.k = 1 then newR next l c else if c.k = 4 then 0
 else if c.k = 3∧betB c.q 1 1000000 = false then 7 else if plc l c.i < 0 then 9
 else match l[(plc l c.i).toNat]? with | some o=>if c.k = 3∧o.left ≤ c.q then 10 else 0 | none=>0
theorem same_form {k s t l q i:Int} {p:Nat} {g:ByteArray} (hk:k = 1 ∨ k = 2 ∨ k = 3 ∨ k = 4):aK ⟨k,s,t,l,q,i,p,g⟩ = (if k = 1 then aB ⟨1,s,t,l,q,0,p,g⟩ ⟨k,s,t,l,q,i,p,g⟩ else if k = 2 then aB ⟨2,0,0,0,0,i,0,⟨#[]⟩⟩ ⟨k,s,t,l,q,i,p,g⟩ else if k = 3 then aB ⟨3,0,0,0,q,i,0,⟨#[]⟩⟩ ⟨k,s,t,l,q,i,p,g⟩ else aB ⟨4,0,0,0,0,0,0,⟨#[]⟩⟩ ⟨k,s,t,l,q,i,p,g⟩):=by
 have hz:fbit 0 = 0:=by decide
 have he:(⟨#[]⟩:ByteArray).toList = []:=by unfold ByteArray.toList; rw [ByteArray.toList.loop]; rfl
 have hg:∀ x:List UInt8,decide ([] = x) = x.isEmpty:=by intro x; cases x <;> rfl
 rw [Bool.eq_iff_iff]
 rcases hk with rfl | rfl | rfl | rfl
 ·simp [aK,aB]; omega
 ·simp [aK,aB,hz,he]
  constructor
  ·rintro ⟨⟨Q,N,h3,h4,h5⟩,h6⟩
   exact ⟨Q.symm,N.symm,h3.symm,h6.symm,h4.symm,h5⟩
  ·rintro ⟨Q,N,h3,h6,h4,h5⟩
   exact ⟨⟨Q.symm,N.symm,h3.symm,h4.symm,h5⟩,h6.symm⟩
 ·simp [aK,aB,hz,he]
  constructor
  ·rintro ⟨Q,N,h3,h4,h5⟩
   exact ⟨Q.symm,N.symm,h3.symm,h4.symm,h5⟩
  ·rintro ⟨Q,N,h3,h4,h5⟩
   exact ⟨Q.symm,N.symm,h3.symm,h4.symm,h5⟩
 ·simp [aK,aB,hz,he]
  constructor
  ·rintro ⟨⟨Q,N,h3,h4,h5⟩,h6,h7⟩
   exact ⟨Q.symm,N.symm,h3.symm,h6.symm,h7.symm,h4.symm,h5⟩
  ·rintro ⟨Q,N,h3,h6,h7,h4,h5⟩
   exact ⟨⟨Q.symm,N.symm,h3.symm,h4.symm,h5⟩,h6.symm,h7.symm⟩
theorem ref_eq (next:Int) (l:List Od) (c:Cm):refS next l c = refR next l c:=by
 obtain ⟨k,s,t,li,q,i,p,g⟩:=c
 by_cases hk:k = 1 ∨ k = 2 ∨ k = 3 ∨ k = 4
 ·have L:betB k 1 4 = true:=by simp [betB]; omega
  have hf:=same_form (s:=s) (t:=t) (l:=li) (q:=q) (i:=i) (p:=p) (g:=g) hk
  unfold refS refR
  simp only [L,hf]
  rcases hk with rfl | rfl | rfl | rfl
  ·simp
   cases aB ⟨1,s,t,li,q,0,p,g⟩ ⟨1,s,t,li,q,i,p,g⟩ <;> simp
  ·simp
   cases aB ⟨2,0,0,0,0,i,0,⟨#[]⟩⟩ ⟨2,s,t,li,q,i,p,g⟩ <;> simp [idR]
   rcases dg l i with e | ⟨k,o,e,Z⟩
   ·rw [e]; rfl
   ·rw [e]; simp [Z]
  ·simp
   cases aB ⟨3,0,0,0,q,i,0,⟨#[]⟩⟩ ⟨3,s,t,li,q,i,p,g⟩ <;> simp [redR]
   cases betB q 1 1000000 <;> simp
   rcases dg l i with e | ⟨k,o,e,Z⟩
   ·rw [e]; rfl
   ·rw [e]; simp [Z]
  ·simp
   cases aB ⟨4,0,0,0,0,0,0,⟨#[]⟩⟩ ⟨4,s,t,li,q,i,p,g⟩ <;> simp
 ·have L:betB k 1 4 = false:=by
   cases h:betB k 1 4
   ·rfl
   ·simp [betB] at h; omega
  unfold refS refR
  simp only [L]
  simp
  rw [if_neg (by omega),if_neg (by omega),if_neg (by omega),if_neg (by omega)]
structure Inv (next:Int) (l:List Od):Prop where
 good:GoodL l
 side:∀ o ∈ l,o.side = 1 ∨ o.side = 2
 ids:∀ o ∈ l,o.id < next
theorem inv_start:Inv 1 []:=⟨⟨by simp,by simp,List.Pairwise.nil⟩,by simp,by simp⟩
theorem hit_ids {l:List Od} {k:Nat} {o:Od} {q:Int} (hk:l[k]? = some o) {b:Int} (h:∀ x ∈ l,x.id < b):∀ x ∈ az l k o q,x.id < b:=by
 intro x hx
 rw [az] at hx
 split at hx
 ·rcases List.mem_append.1 hx with Q | Q
  ·exact h x (List.mem_of_mem_take Q)
  ·exact h x (List.mem_of_mem_drop Q)
 ·rcases List.mem_or_eq_of_mem_set hx with Q | rfl
  ·exact h x Q
  ·exact h o (yO hk)
theorem matL_ids {c:Cm} {id b:Int}:∀ (n:Nat) (l:List Od) (left:Int) (ts:List Ev),ba l→GoodL l→0 ≤ left→left ≤ 1000000→(∀ x ∈ l,x.id < b)→∀ x ∈ (matL c id n l left ts).1,x.id < b:=by
 intro n
 induction n with
 | zero=>intro l left ts _ _ _ _ h x hx; exact h x hx
 | succ n ih =>
  intro l left ts hr hg h0 Q h x hx
  rw [matL] at hx
  split at hx
  ·next xK =>
   split at hx
   ·exact h x hx
   ·next o hf =>
    split at hx
    ·obtain ⟨vn,_⟩:=de hf
     obtain ⟨k,hk⟩:=List.getElem?_of_mem vn
     have hp:=plc_at hr hk
     have qS:(plc l o.id).toNat = k:=by rw [hp]; rfl
     rw [qS] at hx
     have Z:=hg.left o vn
     have hgh:=cM hg hk (qty:=min left o.left) (by omega) (by omega)
     exact ih _ _ _ hgh.1.rise hgh.1 (by omega) (by omega) (hit_ids hk h) x hx
    ·exact h x hx
  ·exact h x hx
theorem inv_step {next:Int} {l:List Od} (c:Cm) (h:Inv next l) (h0:0 ≤ next) (Q:next ≤ 1000000):Inv (stN next l c) (stL next l c)∧next ≤ stN next l c∧stN next l c ≤ next + 1:=by
 rw [stN,stL]
 by_cases hr:refR next l c = 0
 ·rw [if_pos hr]
  by_cases hk:c.k = 1
  ·rw [if_pos ⟨hr,hk⟩,if_pos hk]
   refine ⟨?_,by omega,by omega⟩
   have hq:=bY hr hk
   have hn:=ref_new hr hk
   have hg:=bV (c:=c) (id:=next) 21 l c.q [] h.good (by omega) hq.2
   have hs:=matL_side (c:=c) (id:=next) 21 l c.q [] h.good.rise h.good (by omega) hq.2 h.side
   have hi:=matL_ids (c:=c) (id:=next) (b:=next) 21 l c.q [] h.good.rise h.good (by omega) hq.2 h.ids
   rw [newR] at hn
   split at hn
   ·cases hn
   rename_i uF
   split at hn
   ·cases hn
   split at hn
   ·cases hn
   split at hn
   ·cases hn
   split at hn
   ·cases hn
   split at hn
   ·cases hn
   have uF:c.s = 1 ∨ c.s = 2:=side_of (by simpa using uF)
   generalize matL c next 21 l c.q [] = qt at hg hs hi hn ⊢
   rw [accL]
   split
   ·next hre =>
    rw [matR] at hn
    split at hn
    ·cases hn
    split at hn
    ·cases hn
    split at hn
    ·cases hn
    rw [if_pos ⟨hre.2,hre.1⟩] at hn
    split at hn
    ·cases hn
    rename_i hfu
    have xD:(qt.1 ++ [{ ordO c next with left:=qt.2.1 }]).length ≤ 20:=by
     rcases Nat.lt_or_ge 20 (qt.1 ++ [{ ordO c next with left:=qt.2.1 }]).length with hh | hh
     ·exact absurd (show aU (qt.1 ++ [{ ordO c next with left:=qt.2.1 }]) = true by rw [aU]; exact if_pos hh) (by simpa using hfu)
     ·exact hh
    refine ⟨⟨by simpa using xD,?_,?_⟩,?_,?_⟩
    ·intro o Z
     rcases List.mem_append.1 Z with Z | Z
     ·exact hg.1.left o Z
     ·simp at Z; subst Z; exact ⟨hre.1,hg.2.2⟩
    ·refine List.pairwise_append.2 ⟨hg.1.rise,List.pairwise_singleton _ _,fun a ha b L=>?_⟩
     simp at L; subst L; exact hi a ha
    ·intro o Z
     rcases List.mem_append.1 Z with Z | Z
     ·exact hs o Z
     ·simp at Z; subst Z; exact uF
    ·intro o Z
     rcases List.mem_append.1 Z with Z | Z
     ·have:=hi o Z; omega
     ·simp at Z; subst Z; show next < next + 1; omega
   ·exact ⟨hg.1,hs,fun o Z=>by have:=hi o Z; omega⟩
  ·rw [if_neg (fun e=>hk e.2),if_neg hk]
   refine ⟨?_,by omega,by omega⟩
   by_cases hk2:c.k = 2
   ·rw [if_pos hk2]
    obtain ⟨k,o,hp,Z⟩:=ref_id hr (.inl hk2)
    have qS:(plc l c.i).toNat = k:=by rw [hp]; rfl
    simp only [qS,Z]
    have L:=h.good.left o (yO Z)
    exact ⟨(cM h.good Z (qty:=o.left) (by omega) (by omega)).1,hit_side Z h.side,hit_ids Z h.ids⟩
   ·rw [if_neg hk2]
    by_cases hk3:c.k = 3
    ·rw [if_pos hk3]
     obtain ⟨k,o,hp,Z⟩:=ref_id hr (.inr hk3)
     have qS:(plc l c.i).toNat = k:=by rw [hp]; rfl
     simp only [qS,Z]
     have hq:1 ≤ c.q∧c.q ≤ 1000000∧c.q < o.left:=by
      rw [refR,if_neg hk,if_neg hk2,if_pos hk3] at hr
      split at hr
      ·rw [redR] at hr
       split at hr
       ·next L =>
        rw [hp] at hr
        simp only [Int.toNat_natCast,Z] at hr
        split at hr
        ·cases hr
        ·split at hr
         ·cases hr
         ·have:1 ≤ c.q∧c.q ≤ 1000000:=by simpa [betB] using L
          omega
       ·cases hr
      ·cases hr
     have vn:∀ x ∈ l.set k { o with left:=c.q },∃ y ∈ l,x.id = y.id∧x.side = y.side∧(x.left = y.left ∨ x.left = c.q):=by
      intro x hx
      rcases List.mem_or_eq_of_mem_set hx with Q | rfl
      ·exact ⟨x,Q,rfl,rfl,.inl rfl⟩
      ·exact ⟨o,yO Z,rfl,rfl,.inr rfl⟩
     refine ⟨⟨by simpa using h.good.len,?_,?_⟩,?_,?_⟩
     ·intro x hx
      obtain ⟨y,hy,_,_,h3⟩:=vn x hx
      have:=h.good.left y hy
      rcases h3 with h3 | h3 <;> omega
     ·have jz:=h.good.rise
      rw [ba,List.pairwise_iff_getElem] at jz ⊢
      intro i j hi R pD
      have vy:i < l.length:=by simpa using hi
      have hj':j < l.length:=by simpa using R
      have key:∀ i (hi:i < (l.set k { o with left:=c.q }).length),((l.set k { o with left:=c.q })[i]).id = (l[i]'(by simpa using hi)).id:=by
       intro i hi
       rw [List.getElem_set]
       split
       ·next e=>subst e; have:=yG.1 Z; obtain ⟨_,rfl⟩:=this; rfl
       ·rfl
      rw [key i hi,key j R]
      exact jz i j vy hj' pD
     ·intro x hx
      obtain ⟨y,hy,_,N,_⟩:=vn x hx
      rw [N]; exact h.side y hy
     ·intro x hx
      obtain ⟨y,hy,N,_,_⟩:=vn x hx
      rw [N]; exact h.ids y hy
    ·rw [if_neg hk3]
     have pK:∀ x ∈ l.filter ndy,x ∈ l:=fun x hx=>(List.mem_filter.1 hx).1
     exact ⟨⟨yN (List.length_filter_le _ _) h.good.len,fun o Z=>h.good.left o (pK o Z),List.Pairwise.filter _ h.good.rise⟩,fun o Z=>h.side o (pK o Z),fun o Z=>h.ids o (pK o Z)⟩
 ·rw [if_neg (fun e=>hr e.1),if_neg hr]
  exact ⟨h,by omega,by omega⟩
def cntO (t:Tot) (o:Od):Tot:={ t with li:=wrap64 (t.li + 1),le:=wrap64 (t.le + o.left) }
def wbT (t:Tot) (l:List Od):Tot:=l.foldl cntO t
theorem wb_step (t:Tot) (l:List Od) {k:Nat} {o:Od} (h:l[k]? = some o):wbT t (l.take (k + 1)) = cntO (wbT t (l.take k)) o:=by
 unfold wbT
 rw [List.take_add_one,h,List.foldl_append]; rfl
def cntF (n:Nat):Int:=if 4096 < n then 2 else if 200 < n then 7 else 0
theorem countFault_any (n:Nat) (hn:n ≤ 1073741824) (w:World):Calls Tryz.prog 13 #[H n] w fun r w'=>r = ym (H (cntF n))∧w' = w:=by
 have HF:=Y (cntF.eq_1 n)
 generalize cntF n = qt at HF ⊢
 by_cases Q:4096 < n
 ·have qK:Hid (qt = 2):=(U HF).trans (if_pos Q)
  have oE:(4096:Int) < n:=by omega
  clear HF
  go_enter Tryz.func13,Tryz.ntmps13
  go_wp2_with fail
  exact ⟨rfl,H qt,by rw [U qK]; simp [results,Tryz.results13,go_sem],rfl,rfl⟩
 ·have oE:¬ (4096:Int) < n:=by omega
  by_cases N:200 < n
  ·have qK:Hid (qt = 7):=(U HF).trans ((if_neg Q).trans (if_pos N))
   have js:(200:Int) < n:=by omega
   clear HF
   go_enter Tryz.func13,Tryz.ntmps13
   go_wp2_with fail
   exact ⟨rfl,H qt,by rw [U qK]; simp [results,Tryz.results13,go_sem],rfl,rfl⟩
  ·have qK:Hid (qt = 0):=(U HF).trans ((if_neg Q).trans (if_neg N))
   have js:¬ (200:Int) < n:=by omega
   clear HF
   go_enter Tryz.func13,Tryz.ntmps13
   go_wp2_with fail
   exact ⟨rfl,H qt,by rw [U qK]; simp [results,Tryz.results13,go_sem],rfl,rfl⟩
theorem keepB {w W:World} {S:Nat} {cs:List Value} (h:W.rangeAt S 0 cs∧W.there S 0 8∧W.there (S + 1 + 1) 0 8∧Below S w W∧S + 1 + 1 + 1 ≤ W.heap.size) (j:Nat) (R:j < cs.length) (u:Value):(W.setCell (J S j) u).rangeAt S 0 (cs.set j u)∧(W.setCell (J S j) u).there S 0 8∧(W.setCell (J S j) u).there (S + 1 + 1) 0 8∧Below S w (W.setCell (J S j) u)∧S + 1 + 1 + 1 ≤ (W.setCell (J S j) u).heap.size :=
 ⟨bW h.1 R,zB h.2.1,zB h.2.2.1,h.2.2.2.1.setCell (p:=(J S j)) tg _,by simp only [World.setCell,Array.size_modify]; exact h.2.2.2.2⟩
theorem withBook_any (t:Tot) (next:Int) (v:Value) (l:List Od) (w:World) (hr:RdR Od.vs 6 w v l) :
  Calls Tryz.prog 15 #[.agg #[H t.gr,H t.ac,H t.rf,H t.tr,H t.vo,H t.no,H t.li,H t.le],.agg #[H next,v]] w fun r w'=>r = ym (.agg #[H (wbT t l).gr,H (wbT t l).ac,H (wbT t l).rf,H (wbT t l).tr,H (wbT t l).vo,H (wbT t l).no,H (wbT t l).li,H (wbT t l).le])∧yn w w':=by
 obtain ⟨a,A,rfl,xD,hc⟩:=hr
 have xq:∀ (k:Nat) (c:Od),l[k]? = some c→∃ b off,a = some (J b off)∧b < w.heap.size∧w.rangeAt b (off + k * 6) c.vs:=by
  intro k c hk
  obtain ⟨b,off,Q,N,h3⟩:=hc (by intro h; rw [h] at hk; simp at hk)
  exact ⟨b,off,Q,N,h3 k c hk⟩
 have HC:=Y xq
 clear xq hc
 have hsf:=sfl
 have xA:=ze w (E #[H t.gr,H t.ac,H t.rf,H t.tr,H t.vo,H t.no,H t.li,H t.le] 33)
 have uc:((w.alloc (E #[H t.gr,H t.ac,H t.rf,H t.tr,H t.vo,H t.no,H t.li,H t.le] 33)).alloc (E #[H next,.slice a l.length A] 31)).heap.size = w.heap.size + 1 + 1:=by rw [ze,xA]
 have qG:(((w.alloc (E #[H t.gr,H t.ac,H t.rf,H t.tr,H t.vo,H t.no,H t.li,H t.le] 33)).alloc (E #[H next,.slice a l.length A] 31)).alloc (E #[H 0,H 0,H 0,H 0,H 0,H 0,H 0,H 0] 33)).heap.size = w.heap.size + 1 + 1 + 1:=by rw [ze,uc]
 have r1:=zg w [H t.gr,H t.ac,H t.rf,H t.tr,H t.vo,H t.no,H t.li,H t.le] 33
 have t1:=zu w [H t.gr,H t.ac,H t.rf,H t.tr,H t.vo,H t.no,H t.li,H t.le] 33
 have r2:=zg (w.alloc (E #[H t.gr,H t.ac,H t.rf,H t.tr,H t.vo,H t.no,H t.li,H t.le] 33)) [H next,.slice a l.length A] 31
 have t3:=zu ((w.alloc (E #[H t.gr,H t.ac,H t.rf,H t.tr,H t.vo,H t.no,H t.li,H t.le] 33)).alloc (E #[H next,.slice a l.length A] 31)) [H 0,H 0,H 0,H 0,H 0,H 0,H 0,H 0] 33
 rw [uc] at t3
 rw [xA] at r2
 have b1:=ed w (E #[H t.gr,H t.ac,H t.rf,H t.tr,H t.vo,H t.no,H t.li,H t.le] 33)
 have b2:Below (w.heap.size + 1) (w.alloc (E #[H t.gr,H t.ac,H t.rf,H t.tr,H t.vo,H t.no,H t.li,H t.le] 33)) ((w.alloc (E #[H t.gr,H t.ac,H t.rf,H t.tr,H t.vo,H t.no,H t.li,H t.le] 33)).alloc (E #[H next,.slice a l.length A] 31)):=(Below.refl _ _).alloc (by omega) _
 have b3:Below (w.heap.size + 1 + 1) ((w.alloc (E #[H t.gr,H t.ac,H t.rf,H t.tr,H t.vo,H t.no,H t.li,H t.le] 33)).alloc (E #[H next,.slice a l.length A] 31)) (((w.alloc (E #[H t.gr,H t.ac,H t.rf,H t.tr,H t.vo,H t.no,H t.li,H t.le] 33)).alloc (E #[H next,.slice a l.length A] 31)).alloc (E #[H 0,H 0,H 0,H 0,H 0,H 0,H 0,H 0] 33)):=(Below.refl _ _).alloc (by omega) _
 have HX:Hid (_∧_∧_∧_∧_):=⟨zb (zb r1 b2 (by omega)) b3 (by omega),zf (zf t1 b2 (by omega)) b3 (by omega),t3,(b1.trans (b2.mono (by omega))).trans (b3.mono (by omega)),Nat.le_of_eq qG.symm⟩
 have HBK:=Y (zb r2 b3 (by omega))
 clear xA uc qG r1 r2 t1 t3 b1 b2 b3
 go_enter Tryz.func15,Tryz.ntmps15
 refine ei fun hR xu=>?_
 go_wp2_with fail
 refine U xu _ _ ?_
 clear xu
 generalize (((w.alloc (E #[H t.gr,H t.ac,H t.rf,H t.tr,H t.vo,H t.no,H t.li,H t.le] 33)).alloc (E #[H next,.slice a l.length A] 31)).alloc (E #[H 0,H 0,H 0,H 0,H 0,H 0,H 0,H 0] 33)) = ty at HX HBK ⊢
 have HX:Hid ((ty).rangeAt w.heap.size 0 (wbT t (l.take 0)).vs∧(ty).there w.heap.size 0 8∧(ty).there (w.heap.size + 1 + 1) 0 8∧yn w (ty)∧w.heap.size + 1 + 1 + 1 ≤ (ty).heap.size):=U HX
 have c0:ty.cell? (J (w.heap.size + 1) 0) = some (H next):=U HBK 0 _ rfl
 have c1:ty.cell? (J (w.heap.size + 1) 1) = some (.slice a l.length A):=U HBK 1 _ rfl
 go_wp2_with fail
 clear c0 c1
 go_loopw [10] (fun iv wr=>∃ (k:Nat),k ≤ l.length∧iv = H k∧Hid ((wr).rangeAt w.heap.size 0 (wbT t (l.take k)).vs∧(wr).there w.heap.size 0 8∧(wr).there (w.heap.size + 1 + 1) 0 8∧yn w (wr)∧w.heap.size + 1 + 1 + 1 ≤ (wr).heap.size)) (fun iv _=>l.length - (intOf iv).toNat)
 case atStart=>exact ⟨0,Nat.zero_le _,rfl,U HX⟩
 case round =>
  obtain ⟨k,hk,rfl,uu⟩:=hrel
  by_cases xK:k < l.length
  ·obtain ⟨e,je⟩:∃ e,l[k]? = some e:=⟨_,yH xK⟩
   obtain ⟨b,off,rfl,L,xo⟩:=U HC k e je
   have qf:=Y (wb_step t l je)
   have uv:(k:Int) < l.length:=by omega
   have hse:=(U uu).2.2.2.2
   obtain ⟨g0,g1,g2,g3,g4,g5⟩:=zC (zb xo (U uu).2.2.2.1 L)
   have vr:=ed wr (E (yv e.id e.side e.ticks e.left e.life e.tag).toArray 66)
   have HY:Hid (((wr.alloc (E (yv e.id e.side e.ticks e.left e.life e.tag).toArray 66))).rangeAt w.heap.size 0 (wbT t (l.take k)).vs∧((wr.alloc (E (yv e.id e.side e.ticks e.left e.life e.tag).toArray 66))).there w.heap.size 0 8∧((wr.alloc (E (yv e.id e.side e.ticks e.left e.life e.tag).toArray 66))).there (w.heap.size + 1 + 1) 0 8∧yn w ((wr.alloc (E (yv e.id e.side e.ticks e.left e.life e.tag).toArray 66)))∧w.heap.size + 1 + 1 + 1 ≤ ((wr.alloc (E (yv e.id e.side e.ticks e.left e.life e.tag).toArray 66))).heap.size):=⟨zb (U uu).1 vr (by omega),zf (U uu).2.1 vr (by omega),zf (U uu).2.2.1 vr (by omega),(U uu).2.2.2.1.trans (vr.mono (by omega)),yN hse vr.size⟩
   generalize wbT t (l.take k) = T at qf HY
   obtain ⟨ue,ud,ug,uh,ui,uf,ut,ur⟩:=T
   have xB:w.heap.size ≠ wr.heap.size:=by omega
   have hne':wr.heap.size ≠ w.heap.size:=by omega
   have d6:(wr.alloc (E (yv e.id e.side e.ticks e.left e.life e.tag).toArray 66)).cell? (yq w 6) = some (H ut):=(U HY).1 6 _ rfl
   have p6:(wr.alloc (E (yv e.id e.side e.ticks e.left e.life e.tag).toArray 66)).frozen? (yq w 6) = false:=by have:=((U HY).2.1 6 (by omega)).2; rwa [Nat.zero_add] at this
   have d7:(wr.alloc (E (yv e.id e.side e.ticks e.left e.life e.tag).toArray 66)).cell? (yq w 7) = some (H ur):=(U HY).1 7 _ rfl
   have p7:(wr.alloc (E (yv e.id e.side e.ticks e.left e.life e.tag).toArray 66)).frozen? (yq w 7) = false:=by have:=((U HY).2.1 7 (by omega)).2; rwa [Nat.zero_add] at this
   clear je xo L vr
   have HN:Hid (wbT t (l.take (k + 1)) = ⟨ue,ud,ug,uh,ui,uf,wrap64 (ut + 1),wrap64 (ur + e.left)⟩):=U qf
   clear qf
   go_wp2_with fail
   go_roundw
   case rel=>exact ⟨k + 1,by omega,by go_num,by rw [U HN]; exact keepB (keepB (U HY) 6 (by simp [Tot.vs]) _) 7 (by simp [Tot.vs]) _⟩
   case measure=>simp [intOf]; omega
  ·have uv:¬ (k:Int) < l.length:=by omega
   rw [yZ (by omega)] at uu
   generalize hT:wbT t l = T at uu
   have oj:=Y hT
   have HY:=Y (U uu)
   clear hT
   obtain ⟨ue,ud,ug,uh,ui,uf,ut,ur⟩:=T
   have c0:wr.cell? (yq w 0) = some (H ue):=(U HY).1 0 _ rfl
   obtain ⟨y0,z0,q0⟩:=zc (U HY).2.2.1 (j:=0) (by omega)
   have c1:wr.cell? (yq w 1) = some (H ud):=(U HY).1 1 _ rfl
   obtain ⟨y1,z1,q1⟩:=zc (U HY).2.2.1 (j:=1) (by omega)
   have c2:wr.cell? (yq w 2) = some (H ug):=(U HY).1 2 _ rfl
   obtain ⟨y2,z2,q2⟩:=zc (U HY).2.2.1 (j:=2) (by omega)
   have c3:wr.cell? (yq w 3) = some (H uh):=(U HY).1 3 _ rfl
   obtain ⟨y3,z3,q3⟩:=zc (U HY).2.2.1 (j:=3) (by omega)
   have c4:wr.cell? (yq w 4) = some (H ui):=(U HY).1 4 _ rfl
   obtain ⟨y4,z4,q4⟩:=zc (U HY).2.2.1 (j:=4) (by omega)
   have c5:wr.cell? (yq w 5) = some (H uf):=(U HY).1 5 _ rfl
   obtain ⟨y5,z5,q5⟩:=zc (U HY).2.2.1 (j:=5) (by omega)
   have c6:wr.cell? (yq w 6) = some (H ut):=(U HY).1 6 _ rfl
   obtain ⟨y6,z6,q6⟩:=zc (U HY).2.2.1 (j:=6) (by omega)
   have c7:wr.cell? (yq w 7) = some (H ur):=(U HY).1 7 _ rfl
   obtain ⟨y7,z7,q7⟩:=zc (U HY).2.2.1 (j:=7) (by omega)
   have xQ:=Y (yX wr (w.heap.size + 1 + 1) 0 [H ue,H ud,H ug,H uh,H ui,H uf,H ut,H ur] (fun j R=>(U HY).2.2.1 j R))
   have vQ:=Y (zm (w.heap.size + 1 + 1) (by omega) [H ue,H ud,H ug,H uh,H ui,H uf,H ut,H ur] 0 wr (U HY).2.2.2.1)
   clear uu
   go_wp2_with fail
   change bodyPost _ _ _ _ _ (wr.setCells (w.heap.size + 1 + 1) 0 [H ue,H ud,H ug,H uh,H ui,H uf,H ut,H ur])
   generalize wr.setCells (w.heap.size + 1 + 1) 0 [H ue,H ud,H ug,H uh,H ui,H uf,H ut,H ur] = WE at xQ vQ ⊢
   obtain ⟨d0,d1,d2,d3,d4,d5,d6,d7⟩:=yD (U xQ)
   try simp only [Exit.inBlock,Exit.then]
   refine bodyPost_ret (by simp [results,Tryz.results15,go_sem,d0,d1,d2,d3,d4,d5,d6,d7]; try rfl) rfl ?_
   exact ⟨by rw [U oj],U vQ⟩
structure RunSt where
 n:Int
 l:List Od
 g:List (List Ev)
 t:Tot
def tot0:Tot:=⟨0,0,0,0,0,0,0,0⟩
def rstep (s:RunSt) (c:Cm):RunSt:=⟨stN s.n s.l c,stL s.n s.l c,s.g ++ [stE s.n s.l c],wgT s.t (stE s.n s.l c)⟩
def runS (cs:List Cm):RunSt:=cs.foldl rstep ⟨1,[],[],tot0⟩
theorem cB (cs:List Cm) {k:Nat} {c:Cm} (h:cs[k]? = some c):runS (cs.take (k + 1)) = rstep (runS (cs.take k)) c:=by
 unfold runS
 rw [List.take_add_one,h,List.foldl_append]; rfl
theorem cO (cs:List Cm) (h:cs.length ≤ 200):∀ k,k ≤ cs.length→Inv (runS (cs.take k)).n (runS (cs.take k)).l∧1 ≤ (runS (cs.take k)).n∧(runS (cs.take k)).n ≤ 1 + k∧(runS (cs.take k)).g.length = k:=by
 intro k
 induction k with
 | zero=>intro _; exact ⟨inv_start,by simp [runS],by simp [runS],by simp [runS]⟩
 | succ k ih =>
  intro hk
  obtain ⟨Q,N,h3,h4⟩:=ih (by omega)
  obtain ⟨c,hc⟩:∃ c,cs[k]? = some c:=⟨_,yH (by omega)⟩
  rw [cB cs hc]
  generalize runS (cs.take k) = s at Q N h3 h4 ⊢
  obtain ⟨i1,i2,i3⟩:=inv_step c Q (by omega) (by omega)
  refine ⟨i1,?_,?_,?_⟩
  ·show 1 ≤ stN s.n s.l c; omega
  ·show stN s.n s.l c ≤ 1 + ((k + 1:Nat):Int); omega
  ·show (s.g ++ [stE s.n s.l c]).length = k + 1; simp [h4]
theorem run_inv (cs:List Cm) (h:cs.length ≤ 200):Inv (runS cs).n (runS cs).l∧1 ≤ (runS cs).n∧(runS cs).n ≤ 1 + cs.length∧(runS cs).g.length = cs.length:=by
 have:=cO cs h cs.length tg
 rwa [yZ tg] at this
theorem cntF_zero {n:Nat}:cntF n = 0 ↔ n ≤ 200:=by
 unfold cntF
 split
 ·constructor
  ·intro h; cases h
  ·intro h; omega
 ·split
  ·constructor
   ·intro h; cases h
   ·intro h; omega
  ·exact ⟨fun _=>by omega,fun _=>rfl⟩
def rsF (cs:List Cm):RunSt:=if cs.length ≤ 200 then { runS cs with t:=wbT (runS cs).t (runS cs).l } else ⟨0,[],[],tot0⟩
end Go.Proofs.YtdliebbfcmdmaaaGreat
