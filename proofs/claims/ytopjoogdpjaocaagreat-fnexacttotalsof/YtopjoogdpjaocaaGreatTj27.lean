/-
  The reasons of the model and of the program, held against each other; no function walked.
-/
import Derived.Test.YtopjoogdpjaocaaGreatTj26
set_option linter.unusedVariables false
set_option maxHeartbeats 6400000
set_option maxRecDepth 100000
namespace Go.Proofs.YtopjoogdpjaocaaGreat
open Go.RowKit
theorem hit_side {l:List Od} {k:Nat} {o:Od} {q:Int} (hk:l[k]? = some o) (hs:∀ x ∈ l,x.side = 1 ∨ x.side = 2):∀ x ∈ zau l k o q,x.side = 1 ∨ x.side = 2:=by
 intro x hx
 unfold zau at hx
 split at hx
 ·rcases List.mem_append.1 hx with h | h
  ·exact hs x (List.mem_of_mem_take h)
  ·exact hs x (List.mem_of_mem_drop h)
 ·rcases List.mem_or_eq_of_mem_set hx with h | rfl
  ·exact hs x h
  ·exact hs o (List.mem_of_getElem? hk)
theorem matL_side {c:Cm} {id:Int}:∀ (n:Nat) (l:List Od) (left:Int) (ts:List Ev),zbc l→GoodL l→0 ≤ left→left ≤ 1000000→(∀ x ∈ l,x.side = 1 ∨ x.side = 2)→∀ x ∈ (matL c id n l left ts).1,x.side = 1 ∨ x.side = 2
 | 0,l,left,ts,_,_,_,_,hs=>hs
 | n + 1,l,left,ts,hr,hg,h0,h1,hs=>by
  rw [matL]
  by_cases hl:0 < left
  ·rw [if_pos hl]
   cases hf:zaA l (othS c.s) with
   | none=>exact hs
   | some o =>
    simp only
    by_cases hm:zcn c o = true
    ·rw [if_pos hm]
     obtain ⟨hmem,_⟩:=front_mem hf
     obtain ⟨k,hk⟩:=List.getElem?_of_mem hmem
     have ho:=hg.left o hmem
     rw [plc_at hr hk,Int.toNat_natCast]
     have hg2:=(good_hit hg hk (qty:=min left o.left) (by omega) (by omega)).1
     exact matL_side n _ _ _ hg2.rise hg2 (by omega) (by omega) (hit_side hk hs)
    ·rw [if_neg hm]; exact hs
  ·rw [if_neg hl]; exact hs
def fullS (l:List Od) (t:Od):Bool:=decide (l.length = 20) || decide (8 < nlev (l ++ [t]))
theorem full_eq {l:List Od} {t:Od} (hl:l.length ≤ 20) (hs:∀ x ∈ l ++ [t],x.side = 1 ∨ x.side = 2):fullB (l ++ [t]) = fullS l t:=by
 unfold fullB fullS
 have hn:=nlev_eq hs (zcm true _) (zcm false _)
 by_cases h:l.length = 20
 ·rw [if_pos (by simp; omega)]; simp [h]
 ·rw [if_neg (by simp; omega),zbg,zbg,List.length_map,List.length_map,hn]
  simp only [h,decide_false,Bool.false_or]
  rw [Bool.eq_iff_iff]
  simp only [decide_eq_true_eq]
  omega
def matS (next:Int) (c:Cm) (F:List Od × Int × List Ev):Int :=
 if c.t = 5∧0 < F.2.2.length then 11 else if c.t = 4∧0 < F.2.1 then 12 else if next = 1000000 then 13
 else if zaJ c.t = true then (if 0 < F.2.1 then (if F.1.length = 20 then 13 else if 8 < nlev (F.1 ++ [⟨next,c.s,tkS c.p,F.2.1,c.l,c.g⟩]) then 13 else 0) else 0) else 0
theorem matS_eq {next:Int} {c:Cm} {l:List Od} (hg:GoodL l) (hsd:∀ x ∈ l,x.side = 1 ∨ x.side = 2) (hs:betB c.s 1 2 = true) (hp:prcB c = true) (hq:betB c.q 1 1000000 = true):matS next c (matL c next 21 l c.q []) = matR next c (matL c next 21 l c.q []):=by
 have hq':1 ≤ c.q∧c.q ≤ 1000000:=by simpa [betB] using hq
 have hgood:=zba (c:=c) (id:=next) 21 l c.q [] hg (by omega) (by omega)
 have hside:=matL_side (c:=c) (id:=next) 21 l c.q [] hg.rise hg (by omega) (by omega) hsd
 generalize matL c next 21 l c.q [] = F at *
 unfold matS matR
 by_cases h1:c.t = 5∧0 < F.2.2.length
 ·rw [if_pos h1,if_pos h1]
 rw [if_neg h1,if_neg h1]
 by_cases h2:c.t = 4∧0 < F.2.1
 ·rw [if_pos h2,if_pos h2]
 rw [if_neg h2,if_neg h2]
 by_cases h3:next = 1000000
 ·rw [if_pos h3,if_pos h3]
 rw [if_neg h3,if_neg h3]
 by_cases h4:zaJ c.t = true
 ·by_cases h5:0 < F.2.1
  ·rw [if_pos h4,if_pos h5,if_pos (show zaJ c.t = true∧0 < F.2.1 from ⟨h4,h5⟩)]
   have ht2:c.t ≠ 2:=by
    intro e; rw [e] at h4; exact absurd h4 (by decide)
   have hok:tkOk c.p = true:=by unfold prcB at hp; rw [if_neg ht2] at hp; exact hp
   have ho:({ ordO c next with left:=F.2.1 }:Od) = ⟨next,c.s,tkS c.p,F.2.1,c.l,c.g⟩:=by
    unfold ordO; rw [tkS_ok hok]
   rw [ho]
   have hfe:=full_eq (l:=F.1) (t:=⟨next,c.s,tkS c.p,F.2.1,c.l,c.g⟩) hgood.1.len (fun x hx=>by
    rcases List.mem_append.1 hx with h | h
    ·exact hside x h
    ·simp at h; subst h; exact side_of hs)
   rw [hfe]
   unfold fullS
   by_cases h6:F.1.length = 20
   ·simp [h6]
   ·by_cases h7:8 < nlev (F.1 ++ [⟨next,c.s,tkS c.p,F.2.1,c.l,c.g⟩])
    ·simp [h6,h7]
    ·simp [h6,h7]
  ·rw [if_pos h4,if_neg h5,if_neg (by simp [h5])]
 ·rw [if_neg h4,if_neg (by simp [h4])]
def refS (next:Int) (l:List Od) (c:Cm):Int :=
 if betB c.k 1 4 = false then 1 else if zaT c = false then 2 else if c.k = 1 then newR next l c else if c.k = 4 then 0
 else if c.k = 3∧betB c.q 1 1000000 = false then 7 else if plc l c.i < 0 then 9
 else match l[(plc l c.i).toNat]? with | some o=>if c.k = 3∧o.left ≤ c.q then 10 else 0 | none=>0
theorem same_form {k s t l q i:Int} {p:Nat} {g:ByteArray} (hk:k = 1 ∨ k = 2 ∨ k = 3 ∨ k = 4):zaT ⟨k,s,t,l,q,i,p,g⟩ = (if k = 1 then zaz ⟨1,s,t,l,q,0,p,g⟩ ⟨k,s,t,l,q,i,p,g⟩ else if k = 2 then zaz ⟨2,0,0,0,0,i,0,⟨#[]⟩⟩ ⟨k,s,t,l,q,i,p,g⟩ else if k = 3 then zaz ⟨3,0,0,0,q,i,0,⟨#[]⟩⟩ ⟨k,s,t,l,q,i,p,g⟩ else zaz ⟨4,0,0,0,0,0,0,⟨#[]⟩⟩ ⟨k,s,t,l,q,i,p,g⟩):=by
 have hz:fbit 0 = 0:=by decide
 have he:(⟨#[]⟩:ByteArray).toList = []:=by unfold ByteArray.toList; rw [ByteArray.toList.loop]; rfl
 have hg:∀ x:List UInt8,decide ([] = x) = x.isEmpty:=by intro x; cases x <;> rfl
 rw [Bool.eq_iff_iff]
 rcases hk with rfl | rfl | rfl | rfl
 ·simp [zaT,zaz]; omega
 ·simp [zaT,zaz,hz,he]
  constructor
  ·rintro ⟨⟨h1,h2,h3,h4,h5⟩,h6⟩
   exact ⟨h1.symm,h2.symm,h3.symm,h6.symm,h4.symm,h5⟩
  ·rintro ⟨h1,h2,h3,h6,h4,h5⟩
   exact ⟨⟨h1.symm,h2.symm,h3.symm,h4.symm,h5⟩,h6.symm⟩
 ·simp [zaT,zaz,hz,he]
  constructor
  ·rintro ⟨h1,h2,h3,h4,h5⟩
   exact ⟨h1.symm,h2.symm,h3.symm,h4.symm,h5⟩
  ·rintro ⟨h1,h2,h3,h4,h5⟩
   exact ⟨h1.symm,h2.symm,h3.symm,h4.symm,h5⟩
 ·simp [zaT,zaz,hz,he]
  constructor
  ·rintro ⟨⟨h1,h2,h3,h4,h5⟩,h6,h7⟩
   exact ⟨h1.symm,h2.symm,h3.symm,h6.symm,h7.symm,h4.symm,h5⟩
  ·rintro ⟨h1,h2,h3,h6,h7,h4,h5⟩
   exact ⟨⟨h1.symm,h2.symm,h3.symm,h4.symm,h5⟩,h6.symm,h7.symm⟩
theorem ref_eq (next:Int) (l:List Od) (c:Cm):refS next l c = refR next l c:=by
 obtain ⟨k,s,t,li,q,i,p,g⟩:=c
 by_cases hk:k = 1 ∨ k = 2 ∨ k = 3 ∨ k = 4
 ·have hb:betB k 1 4 = true:=by simp [betB]; omega
  have hf:=same_form (s:=s) (t:=t) (l:=li) (q:=q) (i:=i) (p:=p) (g:=g) hk
  unfold refS refR
  simp only [hb,hf]
  rcases hk with rfl | rfl | rfl | rfl
  ·simp
   cases zaz ⟨1,s,t,li,q,0,p,g⟩ ⟨1,s,t,li,q,i,p,g⟩ <;> simp
  ·simp
   cases zaz ⟨2,0,0,0,0,i,0,⟨#[]⟩⟩ ⟨2,s,t,li,q,i,p,g⟩ <;> simp [idR]
   rcases zbU l i with e | ⟨k,o,e,ho⟩
   ·rw [e]; rfl
   ·rw [e]; simp [ho]
  ·simp
   cases zaz ⟨3,0,0,0,q,i,0,⟨#[]⟩⟩ ⟨3,s,t,li,q,i,p,g⟩ <;> simp [redR]
   cases betB q 1 1000000 <;> simp
   rcases zbU l i with e | ⟨k,o,e,ho⟩
   ·rw [e]; rfl
   ·rw [e]; simp [ho]
  ·simp
   cases zaz ⟨4,0,0,0,0,0,0,⟨#[]⟩⟩ ⟨4,s,t,li,q,i,p,g⟩ <;> simp
 ·have hb:betB k 1 4 = false:=by
   cases h:betB k 1 4
   ·rfl
   ·simp [betB] at h; omega
  unfold refS refR
  simp only [hb]
  simp
  rw [if_neg (by omega),if_neg (by omega),if_neg (by omega),if_neg (by omega)]
structure Inv (next:Int) (l:List Od):Prop where
 good:GoodL l
 side:∀ o ∈ l,o.side = 1 ∨ o.side = 2
 ids:∀ o ∈ l,o.id < next
theorem inv_start:Inv 1 []:=⟨⟨by simp,by simp,List.Pairwise.nil⟩,by simp,by simp⟩
theorem hit_ids {l:List Od} {k:Nat} {o:Od} {q:Int} (hk:l[k]? = some o) {b:Int} (h:∀ x ∈ l,x.id < b):∀ x ∈ zau l k o q,x.id < b:=by
 intro x hx
 rw [zau] at hx
 split at hx
 ·rcases List.mem_append.1 hx with h1 | h1
  ·exact h x (List.mem_of_mem_take h1)
  ·exact h x (List.mem_of_mem_drop h1)
 ·rcases List.mem_or_eq_of_mem_set hx with h1 | rfl
  ·exact h x h1
  ·exact h o (List.mem_of_getElem? hk)
theorem matL_ids {c:Cm} {id b:Int}:∀ (n:Nat) (l:List Od) (left:Int) (ts:List Ev),zbc l→GoodL l→0 ≤ left→left ≤ 1000000→(∀ x ∈ l,x.id < b)→∀ x ∈ (matL c id n l left ts).1,x.id < b:=by
 intro n
 induction n with
 | zero=>intro l left ts _ _ _ _ h x hx; exact h x hx
 | succ n ih =>
  intro l left ts hr hg h0 h1 h x hx
  rw [matL] at hx
  split at hx
  ·next hlt =>
   split at hx
   ·exact h x hx
   ·next o hf =>
    split at hx
    ·obtain ⟨hmem,_⟩:=front_mem hf
     obtain ⟨k,hk⟩:=List.getElem?_of_mem hmem
     have hp:=plc_at hr hk
     have hpt:(plc l o.id).toNat = k:=by rw [hp]; rfl
     rw [hpt] at hx
     have ho:=hg.left o hmem
     have hgh:=good_hit hg hk (qty:=min left o.left) (by omega) (by omega)
     exact ih _ _ _ hgh.1.rise hgh.1 (by omega) (by omega) (hit_ids hk h) x hx
    ·exact h x hx
  ·exact h x hx
theorem inv_step {next:Int} {l:List Od} (c:Cm) (h:Inv next l) (h0:0 ≤ next) (h1:next ≤ 1000000):Inv (stN next l c) (stL next l c)∧next ≤ stN next l c∧stN next l c ≤ next + 1:=by
 rw [stN,stL]
 by_cases hr:refR next l c = 0
 ·rw [if_pos hr]
  by_cases hk:c.k = 1
  ·rw [if_pos ⟨hr,hk⟩,if_pos hk]
   refine ⟨?_,by omega,by omega⟩
   have hq:=zbx hr hk
   have hn:=ref_new hr hk
   have hg:=zba (c:=c) (id:=next) 21 l c.q [] h.good (by omega) hq.2
   have hs:=matL_side (c:=c) (id:=next) 21 l c.q [] h.good.rise h.good (by omega) hq.2 h.side
   have hi:=matL_ids (c:=c) (id:=next) (b:=next) 21 l c.q [] h.good.rise h.good (by omega) hq.2 h.ids
   rw [newR] at hn
   split at hn
   ·cases hn
   rename_i hsd
   split at hn
   ·cases hn
   split at hn
   ·cases hn
   split at hn
   ·cases hn
   split at hn
   ·cases hn
   split at hn
   ·cases hn
   have hsd:c.s = 1 ∨ c.s = 2:=side_of (by simpa using hsd)
   generalize matL c next 21 l c.q [] = F at hg hs hi hn ⊢
   rw [accL]
   split
   ·next hre =>
    rw [matR] at hn
    split at hn
    ·cases hn
    split at hn
    ·cases hn
    split at hn
    ·cases hn
    rw [if_pos ⟨hre.2,hre.1⟩] at hn
    split at hn
    ·cases hn
    rename_i hfu
    have hlen:(F.1 ++ [{ ordO c next with left:=F.2.1 }]).length ≤ 20:=by
     rcases Nat.lt_or_ge 20 (F.1 ++ [{ ordO c next with left:=F.2.1 }]).length with hh | hh
     ·exact absurd (show fullB (F.1 ++ [{ ordO c next with left:=F.2.1 }]) = true by rw [fullB]; exact if_pos hh) (by simpa using hfu)
     ·exact hh
    refine ⟨⟨by simpa using hlen,?_,?_⟩,?_,?_⟩
    ·intro o ho
     rcases List.mem_append.1 ho with ho | ho
     ·exact hg.1.left o ho
     ·simp at ho; subst ho; exact ⟨hre.1,hg.2.2⟩
    ·refine List.pairwise_append.2 ⟨hg.1.rise,List.pairwise_singleton _ _,fun a ha b hb=>?_⟩
     simp at hb; subst hb; exact hi a ha
    ·intro o ho
     rcases List.mem_append.1 ho with ho | ho
     ·exact hs o ho
     ·simp at ho; subst ho; exact hsd
    ·intro o ho
     rcases List.mem_append.1 ho with ho | ho
     ·have:=hi o ho; omega
     ·simp at ho; subst ho; show next < next + 1; omega
   ·exact ⟨hg.1,hs,fun o ho=>by have:=hi o ho; omega⟩
  ·rw [if_neg (fun e=>hk e.2),if_neg hk]
   refine ⟨?_,by omega,by omega⟩
   by_cases hk2:c.k = 2
   ·rw [if_pos hk2]
    obtain ⟨k,o,hp,ho⟩:=ref_id hr (.inl hk2)
    have hpt:(plc l c.i).toNat = k:=by rw [hp]; rfl
    simp only [hpt,ho]
    have hb:=h.good.left o (List.mem_of_getElem? ho)
    exact ⟨(good_hit h.good ho (qty:=o.left) (by omega) (by omega)).1,hit_side ho h.side,hit_ids ho h.ids⟩
   ·rw [if_neg hk2]
    by_cases hk3:c.k = 3
    ·rw [if_pos hk3]
     obtain ⟨k,o,hp,ho⟩:=ref_id hr (.inr hk3)
     have hpt:(plc l c.i).toNat = k:=by rw [hp]; rfl
     simp only [hpt,ho]
     have hq:1 ≤ c.q∧c.q ≤ 1000000∧c.q < o.left:=by
      rw [refR,if_neg hk,if_neg hk2,if_pos hk3] at hr
      split at hr
      ·rw [redR] at hr
       split at hr
       ·next hb =>
        rw [hp] at hr
        simp only [Int.toNat_natCast,ho] at hr
        split at hr
        ·cases hr
        ·split at hr
         ·cases hr
         ·have:1 ≤ c.q∧c.q ≤ 1000000:=by simpa [betB] using hb
          omega
       ·cases hr
      ·cases hr
     have hmem:∀ x ∈ l.set k { o with left:=c.q },∃ y ∈ l,x.id = y.id∧x.side = y.side∧(x.left = y.left ∨ x.left = c.q):=by
      intro x hx
      rcases List.mem_or_eq_of_mem_set hx with h1 | rfl
      ·exact ⟨x,h1,rfl,rfl,.inl rfl⟩
      ·exact ⟨o,List.mem_of_getElem? ho,rfl,rfl,.inr rfl⟩
     refine ⟨⟨by simpa using h.good.len,?_,?_⟩,?_,?_⟩
     ·intro x hx
      obtain ⟨y,hy,_,_,h3⟩:=hmem x hx
      have:=h.good.left y hy
      rcases h3 with h3 | h3 <;> omega
     ·have hr1:=h.good.rise
      rw [zbc,List.pairwise_iff_getElem] at hr1 ⊢
      intro i j hi hj hij
      have hi':i < l.length:=by simpa using hi
      have hj':j < l.length:=by simpa using hj
      have key:∀ i (hi:i < (l.set k { o with left:=c.q }).length),((l.set k { o with left:=c.q })[i]).id = (l[i]'(by simpa using hi)).id:=by
       intro i hi
       rw [List.getElem_set]
       split
       ·next e=>subst e; have:=List.getElem?_eq_some_iff.1 ho; obtain ⟨_,rfl⟩:=this; rfl
       ·rfl
      rw [key i hi,key j hj]
      exact hr1 i j hi' hj' hij
     ·intro x hx
      obtain ⟨y,hy,_,h2,_⟩:=hmem x hx
      rw [h2]; exact h.side y hy
     ·intro x hx
      obtain ⟨y,hy,h2,_,_⟩:=hmem x hx
      rw [h2]; exact h.ids y hy
    ·rw [if_neg hk3]
     have hsub:∀ x ∈ l.filter ndy,x ∈ l:=fun x hx=>(List.mem_filter.1 hx).1
     exact ⟨⟨Nat.le_trans (List.length_filter_le _ _) h.good.len,fun o ho=>h.good.left o (hsub o ho),List.Pairwise.filter _ h.good.rise⟩,fun o ho=>h.side o (hsub o ho),fun o ho=>h.ids o (hsub o ho)⟩
 ·rw [if_neg (fun e=>hr e.1),if_neg hr]
  exact ⟨h,by omega,by omega⟩
def cntO (t:Tot) (o:Od):Tot:={ t with li:=wrap64 (t.li + 1),le:=wrap64 (t.le + o.left) }
def wbT (t:Tot) (l:List Od):Tot:=l.foldl cntO t
theorem wb_step (t:Tot) (l:List Od) {k:Nat} {o:Od} (h:l[k]? = some o):wbT t (l.take (k + 1)) = cntO (wbT t (l.take k)) o:=by
 unfold wbT
 rw [List.take_add_one,h,List.foldl_append]; rfl
def cntF (n:Nat):Int:=if 4096 < n then 2 else if 200 < n then 7 else 0
theorem zch (n:Nat) (hn:n ≤ 1073741824) (w:World):Calls Tryz.prog 15 #[.int .i64 n] w fun r w'=>r = .returned (.int .i64 (cntF n))∧w' = w:=by
 have HF:=hide (cntF.eq_1 n)
 generalize cntF n = F at HF ⊢
 by_cases h1:4096 < n
 ·have HF1:Hid (F = 2):=(za HF).trans (if_pos h1)
  have h1':(4096:Int) < n:=by omega
  clear HF
  go_enter Tryz.func15,Tryz.ntmps15
  go_wp2_with fail
  exact ⟨rfl,.int .i64 F,by rw [za HF1]; simp [results,Tryz.results15,go_sem],rfl,rfl⟩
 ·have h1':¬ (4096:Int) < n:=by omega
  by_cases h2:200 < n
  ·have HF1:Hid (F = 7):=(za HF).trans ((if_neg h1).trans (if_pos h2))
   have h2':(200:Int) < n:=by omega
   clear HF
   go_enter Tryz.func15,Tryz.ntmps15
   go_wp2_with fail
   exact ⟨rfl,.int .i64 F,by rw [za HF1]; simp [results,Tryz.results15,go_sem],rfl,rfl⟩
  ·have HF1:Hid (F = 0):=(za HF).trans ((if_neg h1).trans (if_neg h2))
   have h2':¬ (200:Int) < n:=by omega
   clear HF
   go_enter Tryz.func15,Tryz.ntmps15
   go_wp2_with fail
   exact ⟨rfl,.int .i64 F,by rw [za HF1]; simp [results,Tryz.results15,go_sem],rfl,rfl⟩
theorem keepB {w W:World} {S:Nat} {cs:List Value} (h:W.rangeAt S 0 cs∧W.there S 0 8∧W.there (S + 1 + 1) 0 8∧Below S w W∧S + 1 + 1 + 1 ≤ W.heap.size) (j:Nat) (hj:j < cs.length) (u:Value):(W.setCell ⟨S,j,none⟩ u).rangeAt S 0 (cs.set j u)∧(W.setCell ⟨S,j,none⟩ u).there S 0 8∧(W.setCell ⟨S,j,none⟩ u).there (S + 1 + 1) 0 8∧Below S w (W.setCell ⟨S,j,none⟩ u)∧S + 1 + 1 + 1 ≤ (W.setCell ⟨S,j,none⟩ u).heap.size :=
 ⟨zaP h.1 hj,zC h.2.1,zC h.2.2.1,h.2.2.2.1.setCell (p:=⟨S,j,none⟩) (Nat.le_refl _) _,by simp only [World.setCell,Array.size_modify]; exact h.2.2.2.2⟩
set_option maxRecDepth 100000 in
set_option maxHeartbeats 3200000 in
theorem withBook_any (t:Tot) (next:Int) (v:Value) (l:List Od) (w:World) (hr:RdR Od.vs 6 w v l) :
  Calls Tryz.prog 28 #[.agg #[.int .i64 t.gr,.int .i64 t.ac,.int .i64 t.rf,.int .i64 t.tr,.int .i64 t.vo,.int .i64 t.no,.int .i64 t.li,.int .i64 t.le],.agg #[.int .i64 next,v]] w fun r w'=>r = .returned (.agg #[.int .i64 (wbT t l).gr,.int .i64 (wbT t l).ac,.int .i64 (wbT t l).rf,.int .i64 (wbT t l).tr,.int .i64 (wbT t l).vo,.int .i64 (wbT t l).no,.int .i64 (wbT t l).li,.int .i64 (wbT t l).le])∧Below w.heap.size w w':=by
 obtain ⟨a,cap,rfl,hlen,hc⟩:=hr
 have hcell:∀ (k:Nat) (c:Od),l[k]? = some c→∃ b off,a = some ⟨b,off,none⟩∧b < w.heap.size∧w.rangeAt b (off + k * 6) c.vs:=by
  intro k c hk
  obtain ⟨b,off,h1,h2,h3⟩:=hc (by intro h; rw [h] at hk; simp at hk)
  exact ⟨b,off,h1,h2,h3 k c hk⟩
 have HC:=hide hcell
 clear hcell hc
 have hsf:=sfl
 have hs1:(w.alloc (Obj.cells #[.int .i64 t.gr,.int .i64 t.ac,.int .i64 t.rf,.int .i64 t.tr,.int .i64 t.vo,.int .i64 t.no,.int .i64 t.li,.int .i64 t.le] 25)).heap.size = w.heap.size + 1:=ze _ _
 have hs2:((w.alloc (Obj.cells #[.int .i64 t.gr,.int .i64 t.ac,.int .i64 t.rf,.int .i64 t.tr,.int .i64 t.vo,.int .i64 t.no,.int .i64 t.li,.int .i64 t.le] 25)).alloc (Obj.cells #[.int .i64 next,.slice a l.length cap] 46)).heap.size = w.heap.size + 1 + 1:=by rw [ze,hs1]
 have hs3:(((w.alloc (Obj.cells #[.int .i64 t.gr,.int .i64 t.ac,.int .i64 t.rf,.int .i64 t.tr,.int .i64 t.vo,.int .i64 t.no,.int .i64 t.li,.int .i64 t.le] 25)).alloc (Obj.cells #[.int .i64 next,.slice a l.length cap] 46)).alloc (Obj.cells #[.int .i64 0,.int .i64 0,.int .i64 0,.int .i64 0,.int .i64 0,.int .i64 0,.int .i64 0,.int .i64 0] 25)).heap.size = w.heap.size + 1 + 1 + 1:=by rw [ze,hs2]
 have r1:=zh w [.int .i64 t.gr,.int .i64 t.ac,.int .i64 t.rf,.int .i64 t.tr,.int .i64 t.vo,.int .i64 t.no,.int .i64 t.li,.int .i64 t.le] 25
 have t1:=zw w [.int .i64 t.gr,.int .i64 t.ac,.int .i64 t.rf,.int .i64 t.tr,.int .i64 t.vo,.int .i64 t.no,.int .i64 t.li,.int .i64 t.le] 25
 have r2:=zh (w.alloc (Obj.cells #[.int .i64 t.gr,.int .i64 t.ac,.int .i64 t.rf,.int .i64 t.tr,.int .i64 t.vo,.int .i64 t.no,.int .i64 t.li,.int .i64 t.le] 25)) [.int .i64 next,.slice a l.length cap] 46
 have t3:=zw ((w.alloc (Obj.cells #[.int .i64 t.gr,.int .i64 t.ac,.int .i64 t.rf,.int .i64 t.tr,.int .i64 t.vo,.int .i64 t.no,.int .i64 t.li,.int .i64 t.le] 25)).alloc (Obj.cells #[.int .i64 next,.slice a l.length cap] 46)) [.int .i64 0,.int .i64 0,.int .i64 0,.int .i64 0,.int .i64 0,.int .i64 0,.int .i64 0,.int .i64 0] 25
 rw [hs2] at t3
 rw [hs1] at r2
 have b1:Below w.heap.size w (w.alloc (Obj.cells #[.int .i64 t.gr,.int .i64 t.ac,.int .i64 t.rf,.int .i64 t.tr,.int .i64 t.vo,.int .i64 t.no,.int .i64 t.li,.int .i64 t.le] 25)):=(Below.refl _ _).alloc (Nat.le_refl _) _
 have b2:Below (w.heap.size + 1) (w.alloc (Obj.cells #[.int .i64 t.gr,.int .i64 t.ac,.int .i64 t.rf,.int .i64 t.tr,.int .i64 t.vo,.int .i64 t.no,.int .i64 t.li,.int .i64 t.le] 25)) ((w.alloc (Obj.cells #[.int .i64 t.gr,.int .i64 t.ac,.int .i64 t.rf,.int .i64 t.tr,.int .i64 t.vo,.int .i64 t.no,.int .i64 t.li,.int .i64 t.le] 25)).alloc (Obj.cells #[.int .i64 next,.slice a l.length cap] 46)):=(Below.refl _ _).alloc (by omega) _
 have b3:Below (w.heap.size + 1 + 1) ((w.alloc (Obj.cells #[.int .i64 t.gr,.int .i64 t.ac,.int .i64 t.rf,.int .i64 t.tr,.int .i64 t.vo,.int .i64 t.no,.int .i64 t.li,.int .i64 t.le] 25)).alloc (Obj.cells #[.int .i64 next,.slice a l.length cap] 46)) (((w.alloc (Obj.cells #[.int .i64 t.gr,.int .i64 t.ac,.int .i64 t.rf,.int .i64 t.tr,.int .i64 t.vo,.int .i64 t.no,.int .i64 t.li,.int .i64 t.le] 25)).alloc (Obj.cells #[.int .i64 next,.slice a l.length cap] 46)).alloc (Obj.cells #[.int .i64 0,.int .i64 0,.int .i64 0,.int .i64 0,.int .i64 0,.int .i64 0,.int .i64 0,.int .i64 0] 25)):=(Below.refl _ _).alloc (by omega) _
 have HX:Hid (_∧_∧_∧_∧_):=⟨zb (zb r1 b2 (by omega)) b3 (by omega),zf (zf t1 b2 (by omega)) b3 (by omega),t3,(b1.trans (b2.mono (by omega))).trans (b3.mono (by omega)),Nat.le_of_eq hs3.symm⟩
 have HBK:=hide (zb r2 b3 (by omega))
 clear hs1 hs2 hs3 r1 r2 t1 t3 b1 b2 b3
 go_enter Tryz.func28,Tryz.ntmps28
 refine wp_seq_k fun K hK=>?_
 have HK1:=hide hK
 clear hK
 go_wp2_with fail
 refine za HK1 _ _ ?_
 clear HK1
 generalize (((w.alloc (Obj.cells #[.int .i64 t.gr,.int .i64 t.ac,.int .i64 t.rf,.int .i64 t.tr,.int .i64 t.vo,.int .i64 t.no,.int .i64 t.li,.int .i64 t.le] 25)).alloc (Obj.cells #[.int .i64 next,.slice a l.length cap] 46)).alloc (Obj.cells #[.int .i64 0,.int .i64 0,.int .i64 0,.int .i64 0,.int .i64 0,.int .i64 0,.int .i64 0,.int .i64 0] 25)) = X at HX HBK ⊢
 have HX:Hid ((X).rangeAt w.heap.size 0 (wbT t (l.take 0)).vs∧(X).there w.heap.size 0 8∧(X).there (w.heap.size + 1 + 1) 0 8∧Below w.heap.size w (X)∧w.heap.size + 1 + 1 + 1 ≤ (X).heap.size):=za HX
 have c0:X.cell? ⟨w.heap.size + 1,0,none⟩ = some (.int .i64 next):=za HBK 0 _ rfl
 have c1:X.cell? ⟨w.heap.size + 1,1,none⟩ = some (.slice a l.length cap):=za HBK 1 _ rfl
 go_wp2_with fail
 clear c0 c1
 go_loopw [10] (fun iv wr=>∃ (k:Nat),k ≤ l.length∧iv = .int .i64 k∧Hid ((wr).rangeAt w.heap.size 0 (wbT t (l.take k)).vs∧(wr).there w.heap.size 0 8∧(wr).there (w.heap.size + 1 + 1) 0 8∧Below w.heap.size w (wr)∧w.heap.size + 1 + 1 + 1 ≤ (wr).heap.size)) (fun iv _=>l.length - (intOf iv).toNat)
 case atStart=>exact ⟨0,Nat.zero_le _,rfl,za HX⟩
 case round =>
  obtain ⟨k,hk,rfl,hin⟩:=hrel
  by_cases hlt:k < l.length
  ·obtain ⟨e,hke⟩:∃ e,l[k]? = some e:=⟨_,List.getElem?_eq_getElem hlt⟩
   obtain ⟨b,off,rfl,hb,hcl⟩:=za HC k e hke
   have HNX:=hide (wb_step t l hke)
   have hlt':(k:Int) < l.length:=by omega
   have hse:=(za hin).2.2.2.2
   obtain ⟨g0,g1,g2,g3,g4,g5⟩:=zD (zb hcl (za hin).2.2.2.1 hb)
   have hbY:Below wr.heap.size wr (wr.alloc (Obj.cells #[.int .i64 e.id,.int .i64 e.side,.int .i64 e.ticks,.int .i64 e.left,.int .i64 e.life,.string e.tag] 78)):=(Below.refl _ _).alloc (Nat.le_refl _) _
   have HY:Hid (((wr.alloc (Obj.cells #[.int .i64 e.id,.int .i64 e.side,.int .i64 e.ticks,.int .i64 e.left,.int .i64 e.life,.string e.tag] 78))).rangeAt w.heap.size 0 (wbT t (l.take k)).vs∧((wr.alloc (Obj.cells #[.int .i64 e.id,.int .i64 e.side,.int .i64 e.ticks,.int .i64 e.left,.int .i64 e.life,.string e.tag] 78))).there w.heap.size 0 8∧((wr.alloc (Obj.cells #[.int .i64 e.id,.int .i64 e.side,.int .i64 e.ticks,.int .i64 e.left,.int .i64 e.life,.string e.tag] 78))).there (w.heap.size + 1 + 1) 0 8∧Below w.heap.size w ((wr.alloc (Obj.cells #[.int .i64 e.id,.int .i64 e.side,.int .i64 e.ticks,.int .i64 e.left,.int .i64 e.life,.string e.tag] 78)))∧w.heap.size + 1 + 1 + 1 ≤ ((wr.alloc (Obj.cells #[.int .i64 e.id,.int .i64 e.side,.int .i64 e.ticks,.int .i64 e.left,.int .i64 e.life,.string e.tag] 78))).heap.size):=⟨zb (za hin).1 hbY (by omega),zf (za hin).2.1 hbY (by omega),zf (za hin).2.2.1 hbY (by omega),(za hin).2.2.2.1.trans (hbY.mono (by omega)),Nat.le_trans hse hbY.size⟩
   generalize wbT t (l.take k) = T at HNX HY
   obtain ⟨tgr,tac,trf,ttr,tvo,tno,tli,tle⟩:=T
   have hne:w.heap.size ≠ wr.heap.size:=by omega
   have hne':wr.heap.size ≠ w.heap.size:=by omega
   have d6:(wr.alloc (Obj.cells #[.int .i64 e.id,.int .i64 e.side,.int .i64 e.ticks,.int .i64 e.left,.int .i64 e.life,.string e.tag] 78)).cell? ⟨w.heap.size,6,none⟩ = some (.int .i64 tli):=(za HY).1 6 _ rfl
   have p6:(wr.alloc (Obj.cells #[.int .i64 e.id,.int .i64 e.side,.int .i64 e.ticks,.int .i64 e.left,.int .i64 e.life,.string e.tag] 78)).frozen? ⟨w.heap.size,6,none⟩ = false:=by have:=((za HY).2.1 6 (by omega)).2; rwa [Nat.zero_add] at this
   have d7:(wr.alloc (Obj.cells #[.int .i64 e.id,.int .i64 e.side,.int .i64 e.ticks,.int .i64 e.left,.int .i64 e.life,.string e.tag] 78)).cell? ⟨w.heap.size,7,none⟩ = some (.int .i64 tle):=(za HY).1 7 _ rfl
   have p7:(wr.alloc (Obj.cells #[.int .i64 e.id,.int .i64 e.side,.int .i64 e.ticks,.int .i64 e.left,.int .i64 e.life,.string e.tag] 78)).frozen? ⟨w.heap.size,7,none⟩ = false:=by have:=((za HY).2.1 7 (by omega)).2; rwa [Nat.zero_add] at this
   clear hke hcl hb hbY
   have HN:Hid (wbT t (l.take (k + 1)) = ⟨tgr,tac,trf,ttr,tvo,tno,wrap64 (tli + 1),wrap64 (tle + e.left)⟩):=za HNX
   clear HNX
   go_wp2_with fail
   go_roundw
   case rel=>exact ⟨k + 1,by omega,by go_num,by rw [za HN]; exact keepB (keepB (za HY) 6 (by simp [Tot.vs]) _) 7 (by simp [Tot.vs]) _⟩
   case measure=>simp [intOf]; omega
  ·have hlt':¬ (k:Int) < l.length:=by omega
   rw [List.take_of_length_le (by omega)] at hin
   generalize hT:wbT t l = T at hin
   have HTT:=hide hT
   have HY:=hide (za hin)
   clear hT
   obtain ⟨tgr,tac,trf,ttr,tvo,tno,tli,tle⟩:=T
   have c0:wr.cell? ⟨w.heap.size,0,none⟩ = some (.int .i64 tgr):=(za HY).1 0 _ rfl
   obtain ⟨y0,z0,q0⟩:=zc (za HY).2.2.1 (j:=0) (by omega)
   have c1:wr.cell? ⟨w.heap.size,1,none⟩ = some (.int .i64 tac):=(za HY).1 1 _ rfl
   obtain ⟨y1,z1,q1⟩:=zc (za HY).2.2.1 (j:=1) (by omega)
   have c2:wr.cell? ⟨w.heap.size,2,none⟩ = some (.int .i64 trf):=(za HY).1 2 _ rfl
   obtain ⟨y2,z2,q2⟩:=zc (za HY).2.2.1 (j:=2) (by omega)
   have c3:wr.cell? ⟨w.heap.size,3,none⟩ = some (.int .i64 ttr):=(za HY).1 3 _ rfl
   obtain ⟨y3,z3,q3⟩:=zc (za HY).2.2.1 (j:=3) (by omega)
   have c4:wr.cell? ⟨w.heap.size,4,none⟩ = some (.int .i64 tvo):=(za HY).1 4 _ rfl
   obtain ⟨y4,z4,q4⟩:=zc (za HY).2.2.1 (j:=4) (by omega)
   have c5:wr.cell? ⟨w.heap.size,5,none⟩ = some (.int .i64 tno):=(za HY).1 5 _ rfl
   obtain ⟨y5,z5,q5⟩:=zc (za HY).2.2.1 (j:=5) (by omega)
   have c6:wr.cell? ⟨w.heap.size,6,none⟩ = some (.int .i64 tli):=(za HY).1 6 _ rfl
   obtain ⟨y6,z6,q6⟩:=zc (za HY).2.2.1 (j:=6) (by omega)
   have c7:wr.cell? ⟨w.heap.size,7,none⟩ = some (.int .i64 tle):=(za HY).1 7 _ rfl
   obtain ⟨y7,z7,q7⟩:=zc (za HY).2.2.1 (j:=7) (by omega)
   have HR8:=hide (World.rangeAt_setCells_same wr (w.heap.size + 1 + 1) 0 [.int .i64 tgr,.int .i64 tac,.int .i64 trf,.int .i64 ttr,.int .i64 tvo,.int .i64 tno,.int .i64 tli,.int .i64 tle] (fun j hj=>(za HY).2.2.1 j hj))
   have HB8:=hide (zm (w.heap.size + 1 + 1) (by omega) [.int .i64 tgr,.int .i64 tac,.int .i64 trf,.int .i64 ttr,.int .i64 tvo,.int .i64 tno,.int .i64 tli,.int .i64 tle] 0 wr (za HY).2.2.2.1)
   clear hin
   go_wp2_with fail
   change bodyPost _ _ _ _ _ (wr.setCells (w.heap.size + 1 + 1) 0 [.int .i64 tgr,.int .i64 tac,.int .i64 trf,.int .i64 ttr,.int .i64 tvo,.int .i64 tno,.int .i64 tli,.int .i64 tle])
   generalize wr.setCells (w.heap.size + 1 + 1) 0 [.int .i64 tgr,.int .i64 tac,.int .i64 trf,.int .i64 ttr,.int .i64 tvo,.int .i64 tno,.int .i64 tli,.int .i64 tle] = WE at HR8 HB8 ⊢
   have d0:WE.cell? ⟨w.heap.size + 1 + 1,0,none⟩ = some (.int .i64 tgr):=za HR8 0 _ rfl
   have d1:WE.cell? ⟨w.heap.size + 1 + 1,1,none⟩ = some (.int .i64 tac):=za HR8 1 _ rfl
   have d2:WE.cell? ⟨w.heap.size + 1 + 1,2,none⟩ = some (.int .i64 trf):=za HR8 2 _ rfl
   have d3:WE.cell? ⟨w.heap.size + 1 + 1,3,none⟩ = some (.int .i64 ttr):=za HR8 3 _ rfl
   have d4:WE.cell? ⟨w.heap.size + 1 + 1,4,none⟩ = some (.int .i64 tvo):=za HR8 4 _ rfl
   have d5:WE.cell? ⟨w.heap.size + 1 + 1,5,none⟩ = some (.int .i64 tno):=za HR8 5 _ rfl
   have d6:WE.cell? ⟨w.heap.size + 1 + 1,6,none⟩ = some (.int .i64 tli):=za HR8 6 _ rfl
   have d7:WE.cell? ⟨w.heap.size + 1 + 1,7,none⟩ = some (.int .i64 tle):=za HR8 7 _ rfl
   try simp only [Exit.inBlock,Exit.then]
   refine bodyPost_ret (by simp [results,Tryz.results28,go_sem,d0,d1,d2,d3,d4,d5,d6,d7]; try rfl) rfl ?_
   exact ⟨by rw [za HTT],za HB8⟩
structure RunSt where
 n:Int
 l:List Od
 g:List (List Ev)
 t:Tot
def tot0:Tot:=⟨0,0,0,0,0,0,0,0⟩
def rstep (s:RunSt) (c:Cm):RunSt:=⟨stN s.n s.l c,stL s.n s.l c,s.g ++ [stE s.n s.l c],wgT s.t (stE s.n s.l c)⟩
def runS (cs:List Cm):RunSt:=cs.foldl rstep ⟨1,[],[],tot0⟩
theorem zcf (cs:List Cm) {k:Nat} {c:Cm} (h:cs[k]? = some c):runS (cs.take (k + 1)) = rstep (runS (cs.take k)) c:=by
 unfold runS
 rw [List.take_add_one,h,List.foldl_append]; rfl
theorem run_take (cs:List Cm) (h:cs.length ≤ 200):∀ k,k ≤ cs.length→Inv (runS (cs.take k)).n (runS (cs.take k)).l∧1 ≤ (runS (cs.take k)).n∧(runS (cs.take k)).n ≤ 1 + k∧(runS (cs.take k)).g.length = k:=by
 intro k
 induction k with
 | zero=>intro _; exact ⟨inv_start,by simp [runS],by simp [runS],by simp [runS]⟩
 | succ k ih =>
  intro hk
  obtain ⟨h1,h2,h3,h4⟩:=ih (by omega)
  obtain ⟨c,hc⟩:∃ c,cs[k]? = some c:=⟨_,List.getElem?_eq_getElem (by omega)⟩
  rw [zcf cs hc]
  generalize runS (cs.take k) = s at h1 h2 h3 h4 ⊢
  obtain ⟨i1,i2,i3⟩:=inv_step c h1 (by omega) (by omega)
  refine ⟨i1,?_,?_,?_⟩
  ·show 1 ≤ stN s.n s.l c; omega
  ·show stN s.n s.l c ≤ 1 + ((k + 1:Nat):Int); omega
  ·show (s.g ++ [stE s.n s.l c]).length = k + 1; simp [h4]
theorem run_inv (cs:List Cm) (h:cs.length ≤ 200):Inv (runS cs).n (runS cs).l∧1 ≤ (runS cs).n∧(runS cs).n ≤ 1 + cs.length∧(runS cs).g.length = cs.length:=by
 have:=run_take cs h cs.length (Nat.le_refl _)
 rwa [List.take_of_length_le (Nat.le_refl _)] at this
theorem cntF_zero {n:Nat}:cntF n = 0 ↔ n ≤ 200:=by
 unfold cntF
 split
 ·constructor
  ·intro h; cases h
  ·intro h; omega
 ·split
  ·constructor
   ·intro h; cases h
   ·intro h; omega
  ·exact ⟨fun _=>by omega,fun _=>rfl⟩
def rsF (cs:List Cm):RunSt:=if cs.length ≤ 200 then { runS cs with t:=wbT (runS cs).t (runS cs).l } else ⟨0,[],[],tot0⟩
end Go.Proofs.YtopjoogdpjaocaaGreat
