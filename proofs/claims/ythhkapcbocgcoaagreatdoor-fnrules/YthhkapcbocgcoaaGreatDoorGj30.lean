/-
  What the engine does breaks no rule: at each of its events just that event is due, and the group leaves the engine's book. No function walked.
-/
import Derived.Test.YthhkapcbocgcoaaGreatDoorGj29
set_option linter.unusedVariables false
set_option maxHeartbeats 6400000
set_option maxRecDepth 100000
namespace Go.Proofs.YthhkapcbocgcoaaGreatDoor
open Go.RowKit
def DueIs (d:Du) (e:Ev):Prop:=d.kind = e.kind∧d.id = e.id∧d.other = e.other∧d.qty = e.qty∧d.price = e.price
def Gov:Gr→List Ev→Int→List Od→Prop
 | g,[],N,L=>g.bg ≠ 0∧(dueG g).kind = 0∧g.nx = N∧g.l = L
 | g,e :: r,N,L=>okE e = true∧zD g e = 0∧(g.bg ≠ 0→DueIs (dueG g) e)∧Gov (bV g e) r N L
theorem beg_some {g:Gr} {e:Ev} (h:okE e = true):(bV g e).bg ≠ 0:=by
 have E:=okE_kind h
 have A:begG g e ≠ 0:=by unfold begG; split <;> omega
 unfold bV
 repeat' split
 all_goals exact A
theorem gov_take {N:Int} {L:List Od}:∀ {es:List Ev} {g:Gr},Gov g es N L→∀ k,k ≤ es.length→∃ g',runG g (es.take k) = (g',0)∧Gov g' (es.drop k) N L∧(0 < k→g'.bg ≠ 0)
 | [],g,h,k,E=>⟨g,by simp [runG],by simpa using h,fun h0=>by simp at E; omega⟩
 | e :: es,g,h,0,_=>⟨g,rfl,h,fun h0=>absurd h0 (by decide)⟩
 | e :: es,g,h,k + 1,E=>by
  obtain ⟨Q,D,X,h4⟩:=h
  obtain ⟨g',e1,e2,e3⟩:=gov_take h4 k (by simpa using E)
  refine ⟨g',?_,e2,fun _=>?_⟩
  ·rw [yU,runG,if_pos D]; exact e1
  ·by_cases oG:0 < k
   ·exact e3 oG
   ·obtain rfl:k = 0:=by omega
    rw [List.take_zero,runG] at e1
    cases e1
    exact beg_some Q
theorem ok_tr (a b c d:Int):okE (trE a b c d) = true:=by
 simp [okE,trE,fldK,restK,numsE,plainC,zCm,List.range_succ,fbit_none]
 try decide +kernel
theorem ok_left (k:Int) (E:k = 4 ∨ k = 5 ∨ k = 6 ∨ k = 7 ∨ k = 9) (a b:Int):okE ⟨k,zCm,a,0,b,0,0⟩ = true:=by
 rcases E with rfl | rfl | rfl | rfl | rfl <;> (simp [okE,fldK,restK,numsE,plainC,zCm,List.range_succ,fbit_none]; try decide +kernel)
theorem ok_day (b:Int):okE ⟨8,zCm,0,0,b,0,0⟩ = true:=by
 simp [okE,fldK,restK,numsE,plainC,zCm,List.range_succ,fbit_none]
 try decide +kernel
theorem ok_ref (c:Cm) (r:Int) (h:c.g.size ≤ 13):okE ⟨2,c,0,0,0,0,r⟩ = true:=by
 simp [okE,fldK,restK,numsE,h,List.range_succ]
 try decide +kernel
theorem ok_acc (s t l q:Int) (p:Nat) (g:ByteArray) (n:Int) (h:g.size ≤ 13):okE ⟨1,⟨1,s,t,l,q,0,p,g⟩,n,0,0,0,0⟩ = true:=by
 simp [okE,fldK,restK,numsE,h,List.range_succ]
 try decide +kernel
def grT (nx:Int) (l:List Od) (c:Cm) (id left:Int):Gr:=⟨nx,l,1,c,{ ordO c id with left:=left }⟩
theorem due_T (nx:Int) (l:List Od) (c:Cm) (id left:Int):dueG (grT nx l c id left) = takD l c { ordO c id with left:=left }:=by
 unfold dueG; rw [if_pos (by rfl)]; rfl
theorem gov_mat {c:Cm} {id nx N:Int} {L:List Od}:∀ (k:Nat) (l:List Od) (left:Int) (ts:List Ev),GoodL l→0 ≤ left→left ≤ 1000000 →
  ∃ us,(matL c id k l left ts).2.2 = ts ++ us∧∀ tl,Gov (grT nx (matL c id k l left ts).1 c id (matL c id k l left ts).2.1) tl N L→Gov (grT nx l c id left) (us ++ tl) N L
 | 0,l,left,ts,h,h0,Q=>⟨[],by simp [matL],fun tl h=>h⟩
 | k + 1,l,left,ts,h,h0,Q=>by
  rw [matL]
  by_cases hl:0 < left
  ·rw [if_pos hl]
   cases hf:bT l (othS c.s) with
   | none=>exact ⟨[],by simp,fun tl h=>h⟩
   | some o =>
    simp only
    by_cases hm:cj c o = true
    ·rw [if_pos hm]
     obtain ⟨uC,_⟩:=ek hf
     obtain ⟨i,hi⟩:=List.getElem?_of_mem uC
     have Y:=h.left o uC
     have vD:=dN h.rise hi
     rw [vD,Int.toNat_natCast]
     obtain ⟨us,e1,e2⟩:=gov_mat (c:=c) (id:=id) (nx:=nx) (N:=N) (L:=L) k (bQ l i o (min left o.left)) (left - min left o.left) (ts ++ [trE id o.id (min left o.left) o.ticks]) (dP h hi (by omega) (by omega)).1 (by omega) (by omega)
     refine ⟨trE id o.id (min left o.left) o.ticks :: us,by rw [e1]; simp,fun tl ht=>?_⟩
     have h4:=e2 tl ht
     rw [List.cons_append]
     have hd:dueG (grT nx l c id left) = ⟨3,id,o.id,min left o.left,o.ticks⟩:=by
      rw [due_T,takD,if_neg (by show ¬ left = 0; omega),hf]
      simp only [hm,if_true]
      rfl
     refine ⟨ok_tr _ _ _ _,?_,fun _=>?_,?_⟩
     ·unfold zD
      rw [if_neg (by show ¬ (3:Int) = 1; decide),if_neg (by show ¬ (3:Int) = 2; decide),if_neg (by show ¬ (3:Int) = 6; decide),if_neg (by show ¬ (3:Int) = 7; decide),if_neg (by show ¬ (3:Int) = 8; decide)]
      have vR:dueR (grT nx l c id left) (trE id o.id (min left o.left) o.ticks) = 0:=by
       unfold dueR
       rw [hd,if_neg (by show ¬ (1:Int) = 0; decide),if_neg (by show ¬ (3:Int) = 0; decide),if_neg (by rintro ⟨h5 | h5,-⟩ <;> exact absurd (show (3:Int) = 9 from h5) (by decide))]
      rw [vR,if_neg (by decide),if_pos (by rfl),hd]
      simp [trR,trE]
     ·rw [hd]; exact ⟨rfl,rfl,rfl,rfl,rfl⟩
     ·rw [step3 (by rfl)]
      have e3:hitI l o.id (min left o.left) = bQ l i o (min left o.left):=ex vD hi
      show Gov ⟨nx,hitI l o.id (min left o.left),1,c,{ ordO c id with left:=left - min left o.left }⟩ (us ++ tl) N L
      rw [e3]; exact h4
    ·rw [if_neg hm]; exact ⟨[],by simp,fun tl h=>h⟩
  ·rw [if_neg hl]; exact ⟨[],by simp,fun tl h=>h⟩
theorem gov_day {n:Int}:∀ (m:Nat) (l:List Od),cy l→(l.filter dyB).length = m→Gov ⟨n,l,8,zCm,zOd⟩ ((l.filter dyB).map expE) n (l.filter ndy)
 | 0,l,hr,hm=>by
  have he:l.filter dyB = []:=List.length_eq_zero_iff.1 hm
  rw [he]
  refine ⟨by show (8:Int) ≠ 0; decide,?_,rfl,?_⟩
  ·unfold dueG
   rw [if_neg (by show ¬ (8:Int) = 1; decide),if_pos (by rfl)]
   show (dayD l).kind = 0
   have hf:l.find? isDy = none:=by
    rw [List.find?_eq_none]
    intro x hx hd
    have:x ∈ l.filter dyB:=List.mem_filter.2 ⟨hx,hd⟩
    rw [he] at this; cases this
   unfold dayD; rw [hf]; rfl
  ·show l = l.filter ndy
   refine (List.filter_eq_self.2 fun x hx=>?_).symm
   cases hd:ndy x
   ·exfalso
    have:x ∈ l.filter dyB:=List.mem_filter.2 ⟨hx,by simp only [ndy,Bool.not_eq_false'] at hd; exact hd⟩
    rw [he] at this; cases this
   ·rfl
 | m + 1,l,hr,hm=>by
  have hf:∃ o,l.find? isDy = some o:=by
   cases h:l.find? isDy with
   | some o=>exact ⟨o,rfl⟩
   | none =>
    exfalso
    rw [List.find?_eq_none] at h
    have:l.filter dyB = []:=List.filter_eq_nil_iff.2 h
    rw [this] at hm; cases hm
  obtain ⟨o,hf⟩:=hf
  obtain ⟨hd,xs,ys,rfl,qY⟩:=List.find?_eq_some_iff_append.1 hf
  have hno':∀ a ∈ xs,dyB a = false:=fun a ha=>by show isDy a = false; simpa using qY a ha
  have ea:xs.filter dyB = []:=List.filter_eq_nil_iff.2 fun a ha=>by rw [hno' a ha]; decide
  have e1:(xs ++ o :: ys).filter dyB = o :: ys.filter dyB:=by
   rw [List.filter_append,ea,List.nil_append,List.filter_cons_of_pos (show dyB o = true from hd)]
  have hdn:ndy o = false:=by show (!dyB o) = false; have:dyB o = true:=hd; rw [this]; rfl
  have e2:(xs ++ o :: ys).filter ndy = (xs ++ ys).filter ndy:=by
   rw [List.filter_append,List.filter_append,List.filter_cons_of_neg (by rw [hdn]; decide)]
  have e3:(xs ++ ys).filter dyB = ys.filter dyB:=by rw [List.filter_append,ea,List.nil_append]
  have E:(xs ++ o :: ys)[xs.length]? = some o:=by simp
  have vD:=dN hr E
  have hr2:cy (xs ++ ys):=List.Pairwise.sublist (List.Sublist.append (List.Sublist.refl xs) (List.sublist_cons_self o ys)) hr
  have ih:=gov_day (n:=n) m (xs ++ ys) hr2 (by rw [e3]; rw [e1] at hm; simpa using hm)
  rw [e3] at ih
  have hdue:dueG ⟨n,xs ++ o :: ys,8,zCm,zOd⟩ = ⟨9,o.id,0,o.left,0⟩:=by
   unfold dueG
   rw [if_neg (by show ¬ (8:Int) = 1; decide),if_pos (by rfl)]
   show dayD (xs ++ o :: ys) = _
   unfold dayD; rw [hf]
  have hhit:hitI (xs ++ o :: ys) o.id o.left = xs ++ ys:=by
   rw [ex vD E,bQ,if_pos rfl]
   simp
  rw [e1,e2,List.map_cons]
  refine ⟨ok_left 9 (.inr (.inr (.inr (.inr rfl)))) _ _,?_,fun _=>?_,?_⟩
  ·unfold zD
   rw [if_neg (by show ¬ (9:Int) = 1; decide),if_neg (by show ¬ (9:Int) = 2; decide),if_neg (by show ¬ (9:Int) = 6; decide),if_neg (by show ¬ (9:Int) = 7; decide),if_neg (by show ¬ (9:Int) = 8; decide)]
   have vR:dueR ⟨n,xs ++ o :: ys,8,zCm,zOd⟩ (expE o) = 0:=by
    unfold dueR
    rw [hdue]
    simp [cz,expE]
   rw [vR,if_neg (by decide),if_neg (by show ¬ (9:Int) = 3; decide),if_pos (by rfl)]
  ·rw [hdue]; exact ⟨rfl,rfl,rfl,rfl,rfl⟩
  ·rw [step9 (by rfl),hdue]
   show Gov ⟨n,hitI (xs ++ o :: ys) o.id o.left,8,zCm,zOd⟩ _ n _
   rw [hhit]; exact ih
theorem gov_all {n:Int} {l:List Od} {c:Cm} (h:OkB n l):Gov (gr0 n l) (stE n l c) (stN n l c) (stL n l c):=by
 have hg:=fI h
 rw [stE,stN,stL]
 by_cases h0:refR n l c = 0
 ·rw [if_pos h0,if_pos h0]
  by_cases E:c.k = 1
  ·rw [if_pos E,if_pos E,if_pos ⟨h0,E⟩]
   have hq:=fg h0 E
   have hf:=form1 h0 E
   have hn:=ref_new h0 E
   have htg:c.g.size ≤ 13:=by
    rcases Nat.lt_or_ge 13 c.g.size with kC | qx
    ·exfalso
     rw [refR_long (by omega),if_pos E] at h0
     revert h0
     repeat' split
     all_goals (intro h; cases h)
    ·exact qx
   obtain ⟨us,e1,e2⟩:=gov_mat (c:=c) (id:=n) (nx:=n + 1) (N:=n + 1) (L:=accL c n (matL c n 21 l c.q [])) 21 l c.q [] hg (by omega) hq.2
   obtain ⟨g1,g2,g3⟩:=eF (c:=c) (id:=n) 21 l c.q [] hg (by omega) hq.2
   have vd:=mat_stop (c:=c) (id:=n) 21 l c.q [] hg (by omega) hq.2 (by have:=hg.len; omega)
   generalize matL c n 21 l c.q [] = hR at e1 e2 g1 g2 g3 vd ⊢
   rw [accE,e1,List.nil_append,List.cons_append]
   refine ⟨ok_acc _ _ _ _ _ _ _ htg,?_,fun A=>absurd (show (gr0 n l).bg = 0 from rfl) A,?_⟩
   ·unfold zD
    have hs:zU (gr0 n l) ⟨1,⟨1,c.s,c.t,c.l,c.q,0,c.p,c.g⟩,n,0,0,0,0⟩ = 0:=by
     have ht:da ⟨1,⟨1,c.s,c.t,c.l,c.q,0,c.p,c.g⟩,n,0,0,0,0⟩ = c:=by unfold da; rw [if_pos (by rfl)]; exact hf.symm
     unfold zU
     rw [if_neg (by show ¬ (0:Int) ≠ 0; decide),ht]
     show (if refR n l c ≠ 0 then (5:Int) else 0) = 0
     rw [h0]; rfl
    rw [if_pos (by rfl),hs,if_neg (by decide)]
    exact if_pos rfl
   ·rw [step1 (by rfl)]
    have ec:(⟨n + 1,l,begG (gr0 n l) ⟨1,⟨1,c.s,c.t,c.l,c.q,0,c.p,c.g⟩,n,0,0,0,0⟩,⟨1,c.s,c.t,c.l,c.q,0,c.p,c.g⟩,ordO ⟨1,c.s,c.t,c.l,c.q,0,c.p,c.g⟩ n⟩:Gr) = grT (n + 1) l c n c.q:=by
     rw [← hf]; rfl
    show Gov (⟨n + 1,l,begG (gr0 n l) ⟨1,⟨1,c.s,c.t,c.l,c.q,0,c.p,c.g⟩,n,0,0,0,0⟩,⟨1,c.s,c.t,c.l,c.q,0,c.p,c.g⟩,ordO ⟨1,c.s,c.t,c.l,c.q,0,c.p,c.g⟩ n⟩:Gr) _ _ _
    rw [ec]
    refine e2 _ ?_
    by_cases hl:0 < hR.2.1
    ·rw [if_pos hl]
     have hd:dueG (grT (n + 1) hR.1 c n hR.2.1) = lftD c { ordO c n with left:=hR.2.1 }:=by
      rw [due_T,takD,if_neg (by show ¬ hR.2.1 = 0; omega)]
      cases hf2:bT hR.1 (othS c.s) with
      | none=>rfl
      | some o=>simp only; rw [if_neg (by rw [vd hl o hf2]; decide)]
     by_cases hr:bR c.t = true
     ·rw [if_pos hr]
      rw [lftD,if_pos hr] at hd
      refine ⟨ok_left 4 (.inl rfl) _ _,?_,fun _=>?_,?_⟩
      ·unfold zD
       rw [if_neg (by show ¬ (4:Int) = 1; decide),if_neg (by show ¬ (4:Int) = 2; decide),if_neg (by show ¬ (4:Int) = 6; decide),if_neg (by show ¬ (4:Int) = 7; decide),if_neg (by show ¬ (4:Int) = 8; decide)]
       have vR:dueR (grT (n + 1) hR.1 c n hR.2.1) ⟨4,zCm,n,0,hR.2.1,0,0⟩ = 0:=by
        unfold dueR
        rw [hd,if_neg (by show ¬ (1:Int) = 0; decide),if_neg (by show ¬ (4:Int) = 0; decide),if_neg (by rintro ⟨h5 | h5,-⟩ <;> exact absurd (show (4:Int) = 9 from h5) (by decide))]
       rw [vR,if_neg (by decide),if_neg (by show ¬ (4:Int) = 3; decide),if_neg (by show ¬ (4:Int) = 9; decide),hd]
       simp [cz,ordO]
      ·rw [hd]; exact ⟨rfl,rfl,rfl,rfl,rfl⟩
      ·rw [step4 (by rfl)]
       refine ⟨by show (1:Int) ≠ 0; decide,?_,rfl,?_⟩
       ·unfold dueG
        rw [if_pos (by rfl)]
        show (takD _ _ _).kind = 0
        rw [takD,if_pos (by rfl)]; rfl
       ·show hR.1 ++ [_] = accL c n hR
        rw [accL,if_pos ⟨hl,hr⟩]; rfl
     ·rw [if_neg hr]
      rw [lftD,if_neg hr] at hd
      refine ⟨ok_left 5 (.inr (.inl rfl)) _ _,?_,fun _=>?_,?_⟩
      ·unfold zD
       rw [if_neg (by show ¬ (5:Int) = 1; decide),if_neg (by show ¬ (5:Int) = 2; decide),if_neg (by show ¬ (5:Int) = 6; decide),if_neg (by show ¬ (5:Int) = 7; decide),if_neg (by show ¬ (5:Int) = 8; decide)]
       have vR:dueR (grT (n + 1) hR.1 c n hR.2.1) ⟨5,zCm,n,0,hR.2.1,0,0⟩ = 0:=by
        unfold dueR
        rw [hd,if_neg (by show ¬ (1:Int) = 0; decide),if_neg (by show ¬ (5:Int) = 0; decide),if_neg (by rintro ⟨h5 | h5,-⟩ <;> exact absurd (show (5:Int) = 9 from h5) (by decide))]
       rw [vR,if_neg (by decide),if_neg (by show ¬ (5:Int) = 3; decide),if_neg (by show ¬ (5:Int) = 9; decide),hd]
       simp [cz,ordO]
      ·rw [hd]; exact ⟨rfl,rfl,rfl,rfl,rfl⟩
      ·rw [step5 (by rfl)]
       refine ⟨by show (1:Int) ≠ 0; decide,?_,rfl,?_⟩
       ·unfold dueG
        rw [if_pos (by rfl)]
        show (takD _ _ _).kind = 0
        rw [takD,if_pos (by rfl)]; rfl
       ·show hR.1 = accL c n hR
        rw [accL,if_neg (fun (x:0 < hR.2.1∧bR c.t = true)=>hr x.2)]
    ·rw [if_neg hl]
     have hz:hR.2.1 = 0:=by omega
     refine ⟨by show (1:Int) ≠ 0; decide,?_,rfl,?_⟩
     ·rw [due_T,takD,if_pos (by show hR.2.1 = 0; exact hz)]; rfl
     ·show hR.1 = accL c n hR
      rw [accL,if_neg (fun (x:0 < hR.2.1∧bR c.t = true)=>hl x.1)]
  ·rw [if_neg E,if_neg E,if_neg (fun (x:refR n l c = 0∧c.k = 1)=>E x.2)]
   by_cases D:c.k = 2
   ·rw [if_pos D,if_pos D]
    have ht:=toldCan h0 D
    obtain ⟨k,o,hp,Y,hoi⟩:=plc_pos (ref_can ht)
    rw [hp,Int.toNat_natCast,Y]
    simp only
    refine ⟨ok_left 6 (.inr (.inr (.inl rfl))) _ _,?_,fun A=>absurd (show (gr0 n l).bg = 0 from rfl) A,?_⟩
    ·unfold zD
     rw [if_neg (by show ¬ (6:Int) = 1; decide),if_neg (by show ¬ (6:Int) = 2; decide),if_pos (by rfl)]
     have hs:zU (gr0 n l) ⟨6,zCm,c.i,0,o.left,0,0⟩ = 0:=by
      unfold zU
      rw [if_neg (by show ¬ (0:Int) ≠ 0; decide)]
      show (if refR n l ⟨2,0,0,0,0,c.i,0,⟨#[]⟩⟩ ≠ 0 then (5:Int) else 0) = 0
      rw [ht]; rfl
     rw [hs,if_neg (by decide)]
     refine if_pos ?_
     show o.left = leftAt l c.i
     exact (leftAt_at hp Y).symm
    ·rw [step6 (by rfl)]
     refine ⟨by show (6:Int) ≠ 0; decide,?_,rfl,?_⟩
     ·unfold dueG
      rw [if_neg (by show ¬ (6:Int) = 1; decide),if_neg (by show ¬ (6:Int) = 8; decide)]; rfl
     ·show hitI l c.i o.left = _
      rw [ex hp Y]
   ·rw [if_neg D,if_neg D]
    by_cases X:c.k = 3
    ·rw [if_pos X,if_pos X]
     have ht:=toldRed h0 X
     obtain ⟨k,o,hp,Y,hoi,-⟩:=ref_red ht
     rw [hp,Int.toNat_natCast,Y]
     refine ⟨ok_left 7 (.inr (.inr (.inr (.inl rfl)))) _ _,?_,fun A=>absurd (show (gr0 n l).bg = 0 from rfl) A,?_⟩
     ·unfold zD
      rw [if_neg (by show ¬ (7:Int) = 1; decide),if_neg (by show ¬ (7:Int) = 2; decide),if_neg (by show ¬ (7:Int) = 6; decide),if_pos (by rfl)]
      unfold zU
      rw [if_neg (by show ¬ (0:Int) ≠ 0; decide)]
      show (if refR n l ⟨3,0,0,0,c.q,c.i,0,⟨#[]⟩⟩ ≠ 0 then (5:Int) else 0) = 0
      rw [ht]; rfl
     ·rw [step7 (by rfl)]
      refine ⟨by show (7:Int) ≠ 0; decide,?_,rfl,?_⟩
      ·unfold dueG
       rw [if_neg (by show ¬ (7:Int) = 1; decide),if_neg (by show ¬ (7:Int) = 8; decide)]; rfl
      ·show setI l c.i c.q = _
       rw [setI_at hp Y]
    ·rw [if_neg X,if_neg X]
     refine ⟨ok_day _,?_,fun A=>absurd (show (gr0 n l).bg = 0 from rfl) A,?_⟩
     ·unfold zD
      rw [if_neg (by show ¬ (8:Int) = 1; decide),if_neg (by show ¬ (8:Int) = 2; decide),if_neg (by show ¬ (8:Int) = 6; decide),if_neg (by show ¬ (8:Int) = 7; decide),if_pos (by rfl)]
      have hs:zU (gr0 n l) ⟨8,zCm,0,0,((l.filter dyB).length:Nat),0,0⟩ = 0:=by
       unfold zU
       rw [if_neg (by show ¬ (0:Int) ≠ 0; decide)]
       show (if refR n l ⟨4,0,0,0,0,0,0,⟨#[]⟩⟩ ≠ 0 then (5:Int) else 0) = 0
       rw [toldDay]; rfl
      rw [hs,if_neg (by decide)]
      exact if_pos rfl
     ·rw [step8 (by rfl)]
      exact gov_day _ l hg.rise rfl
 ·rw [if_neg h0,if_neg h0,if_neg (fun (x:refR n l c = 0∧c.k = 1)=>h0 x.1)]
  refine ⟨ok_ref (cutC c) _ (eU _),?_,fun A=>absurd (show (gr0 n l).bg = 0 from rfl) A,?_⟩
  ·unfold zD
   rw [if_neg (by show ¬ (2:Int) = 1; decide),if_pos (by rfl),if_neg (by show ¬ (0:Int) ≠ 0; decide)]
   refine if_pos ?_
   have e:refR n l (cutC c) = refR n l c:=refR_cut c
   exact ⟨by show refR n l (cutC c) ≠ 0; rw [e]; exact h0,e⟩
  ·rw [step2 (by rfl)]
   refine ⟨by show (2:Int) ≠ 0; decide,?_,rfl,rfl⟩
   unfold dueG
   rw [if_neg (by show ¬ (2:Int) = 1; decide),if_neg (by show ¬ (2:Int) = 8; decide)]; rfl
def Mh (x:Int):Prop:=-9223372036854775808 ≤ x∧x ≤ 9223372036854775807
structure CmFit (c:Cm):Prop where
 k:Mh c.k
 s:Mh c.s
 t:Mh c.t
 l:Mh c.l
 q:Mh c.q
 i:Mh c.i
 p:c.p < 18446744073709551616
 g:c.g.size ≤ 20
theorem dG {x:Int} (h0:-1000000 ≤ x) (Q:x ≤ 1000000):Mh x:=⟨by omega,by omega⟩
theorem cmFit_eq {c d:Cm} (h:CmEq c d) (hd:CmFit d):CmFit c :=
 ⟨by rw [h.k]; exact hd.k,by rw [h.s]; exact hd.s,by rw [h.t]; exact hd.t,by rw [h.l]; exact hd.l,by rw [h.q]; exact hd.q,by rw [h.i]; exact hd.i,by
  rcases h.p with e | ⟨-,-,Q,-⟩
  ·rw [e]; exact hd.p
  ·exact Q,by rw [h.g]; exact hd.g⟩
theorem nx_mh (l:List Int) {n:Int} (s:Sr) (Q:1 ≤ n) (D:n ≤ 1000000):0 ≤ (nxF l n s).1∧(nxF l n s).1 < n∧Mh (nxF l n s).1:=by
 obtain ⟨a,b⟩:=cZ (l:=l) (n:=n) (s:=s) Q
 exact ⟨a,b,dG (by omega) (by omega)⟩
theorem odd_mh (k:Nat):Mh (oddL.getD k 0):=by
 by_cases h:k < 12
 ·rcases (show k = 0 ∨ k = 1 ∨ k = 2 ∨ k = 3 ∨ k = 4 ∨ k = 5 ∨ k = 6 ∨ k = 7 ∨ k = 8 ∨ k = 9 ∨ k = 10 ∨ k = 11 by omega) with rfl | rfl | rfl | rfl | rfl | rfl | rfl | rfl | rfl | rfl | rfl | rfl
  all_goals exact ⟨by decide,by decide⟩
 ·rw [List.getD_eq_getElem?_getD,List.getElem?_eq_none (by show 12 ≤ k; omega)]
  exact ⟨by decide,by decide⟩
theorem nu_mh (l:List Int) (s:Sr):Mh (nuF l s).1:=by
 rw [nuF]
 split
 ·exact odd_mh _
 ·have:=cZ (l:=l) (n:=400) (s:=(nxF l 4 s).2) (by omega)
  exact dG (by show -1000000 ≤ (nxF l 400 (nxF l 4 s).2).1 - 100; omega) (by show (nxF l 400 (nxF l 4 s).2).1 - 100 ≤ 1000000; omega)
theorem flt_lt (k:Nat):fltL.getD k 0 < 18446744073709551616:=by
 by_cases h:k < 15
 ·rcases (show k = 0 ∨ k = 1 ∨ k = 2 ∨ k = 3 ∨ k = 4 ∨ k = 5 ∨ k = 6 ∨ k = 7 ∨ k = 8 ∨ k = 9 ∨ k = 10 ∨ k = 11 ∨ k = 12 ∨ k = 13 ∨ k = 14 by omega) with rfl | rfl | rfl | rfl | rfl | rfl | rfl | rfl | rfl | rfl | rfl | rfl | rfl | rfl | rfl
  all_goals decide
 ·rw [List.getD_eq_getElem?_getD,List.getElem?_eq_none (by show 15 ≤ k; omega)]; decide
theorem prl_lt (k:Nat):prL.getD k 0 < 18446744073709551616:=by
 by_cases h:k < 9
 ·rcases (show k = 0 ∨ k = 1 ∨ k = 2 ∨ k = 3 ∨ k = 4 ∨ k = 5 ∨ k = 6 ∨ k = 7 ∨ k = 8 by omega) with rfl | rfl | rfl | rfl | rfl | rfl | rfl | rfl | rfl
  all_goals decide
 ·rw [List.getD_eq_getElem?_getD,List.getElem?_eq_none (by show 9 ≤ k; omega)]; decide
theorem ty_mh (k:Nat):Mh (tyL.getD k 0):=by
 by_cases h:k < 8
 ·rcases (show k = 0 ∨ k = 1 ∨ k = 2 ∨ k = 3 ∨ k = 4 ∨ k = 5 ∨ k = 6 ∨ k = 7 by omega) with rfl | rfl | rfl | rfl | rfl | rfl | rfl | rfl
  all_goals exact ⟨by decide,by decide⟩
 ·rw [List.getD_eq_getElem?_getD,List.getElem?_eq_none (by show 8 ≤ k; omega)]
  exact ⟨by decide,by decide⟩
theorem mh_1 {x:Int} (h0:0 ≤ x) (Q:x < 1000000):Mh (1 + x):=dG (by omega) (by omega)
theorem cmdF_fit (l:List Int) (ids:Int) (s:Sr) (h0:0 ≤ ids) (Q:ids ≤ 1000):CmFit (cmdF l ids s).1:=by
 have z:Mh 0:=⟨by decide,by decide⟩
 have i2:Mh 2:=⟨by decide,by decide⟩
 have i3:Mh 3:=⟨by decide,by decide⟩
 have i4:Mh 4:=⟨by decide,by decide⟩
 have i1:Mh 1:=⟨by decide,by decide⟩
 rw [cmdF]
 split
 ·exact ⟨(nx_mh l _ (by omega) (by omega)).2.2,(nx_mh l _ (by omega) (by omega)).2.2,(nx_mh l _ (by omega) (by omega)).2.2,(nx_mh l _ (by omega) (by omega)).2.2,nu_mh l _,(nx_mh l _ (by omega) (by omega)).2.2,flt_lt _,getD_len tags8_len _⟩
 ·have a:=nx_mh l (n:=ids + 1) (nxF l 12 s).2 (by omega) (by omega)
  split
  ·exact ⟨i2,z,z,z,z,mh_1 a.1 (by omega),by show 0 < 18446744073709551616; decide,Nat.zero_le _⟩
  ·split
   ·exact ⟨i3,z,z,z,(nx_mh l _ (by omega) (by omega)).2.2,mh_1 a.1 (by omega),by show 0 < 18446744073709551616; decide,Nat.zero_le _⟩
   ·split
    ·exact ⟨i4,z,z,z,z,z,by show 0 < 18446744073709551616; decide,Nat.zero_le _⟩
    ·have b:=nx_mh l (n:=2) (nxF l 12 s).2 (by omega) (by omega)
     have d:=nx_mh l (n:=12) (nxF l 8 (nxF l 2 (nxF l 12 s).2).2).2 (by omega) (by omega)
     refine ⟨i1,mh_1 b.1 (by omega),ty_mh _,?_,mh_1 d.1 (by omega),z,?_,getD_len tag3_len _⟩
     ·show Mh (clF _ _ _).1
      rw [clF]
      split
      ·show Mh (if _ then 1 else 0)
       split
       ·exact i1
       ·exact z
      ·exact z
     ·show (cpF _ _ _).1 < _
      rw [cpF]
      split
      ·show 0 < 18446744073709551616; decide
      ·exact prl_lt _
theorem scrF_fit (l:List Int):∀ (n k:Nat) (s:Sr),n + k ≤ 1000→∀ c ∈ (scrF l n k s).1,CmFit c
 | 0,_,_,_,_,h=>nomatch h
 | n + 1,k,s,E,c,h=>by
  rw [scrF] at h
  rcases List.mem_cons.1 h with rfl | h
  ·exact cmdF_fit l k s (by omega) (by omega)
  ·exact scrF_fit l n (k + 1) _ (by omega) c h
theorem scD_fit (l:List Int):∀ c ∈ scD l,CmFit c:=by
 have:=szF_bd l
 have h:=cZ (l:=l) (n:=szF l 24 + 4) (s:=⟨0,(l.length:Int) % 1000⟩) (by omega)
 exact scrF_fit l _ _ _ (by omega)
theorem csEq_fit:∀ {cs ds:List Cm},CsEq cs ds→(∀ d ∈ ds,CmFit d)→∀ c ∈ cs,CmFit c
 | [],[],_,_,_,h=>nomatch h
 | _ :: _,d :: ds,h,hd,c,hc=>by
  rcases List.mem_cons.1 hc with rfl | hc
  ·exact cmFit_eq h.1 (hd d (by simp))
  ·exact csEq_fit h.2 (fun x hx=>hd x (by simp [hx])) c hc
 | [],_ :: _,h,_,_,_=>h.elim
 | _ :: _,[],h,_,_,_=>h.elim
theorem fit_of {e:Ev} (hc:CmFit e.cmd) (E:Mh e.kind) (Q:Mh e.id) (D:Mh e.other) (X:Mh e.qty) (h4:Mh e.price) (h5:Mh e.reason):e.fit:=by
 refine ⟨fun o=>?_,E,hc.p,yO hc.g (by unfold maxLen; omega)⟩
 unfold Ev.num
 split
 ·exact hc.k
 ·exact hc.s
 ·exact hc.t
 ·exact hc.l
 ·exact hc.q
 ·exact hc.i
 ·exact Q
 ·exact D
 ·exact X
 ·exact h4
 ·exact h5
 ·exact ⟨by decide,by decide⟩
theorem zCm_fit:CmFit zCm:=⟨⟨by decide,by decide⟩,⟨by decide,by decide⟩,⟨by decide,by decide⟩,⟨by decide,by decide⟩,⟨by decide,by decide⟩,⟨by decide,by decide⟩,by decide,by decide⟩
theorem cut_fit {c:Cm} (h:CmFit c):CmFit (cutC c):=⟨h.k,h.s,h.t,h.l,h.q,h.i,h.p,yO (eU _) (by decide)⟩
theorem mat_fit {c:Cm} {id N:Int} (uN:Mh id):∀ (n:Nat) (l:List Od) (left:Int) (ts:List Ev),GoodL l→0 ≤ left→left ≤ 1000000→(∀ o ∈ l,Mh o.id∧Mh o.ticks)→(∀ e ∈ ts,e.fit)→∀ e ∈ (matL c id n l left ts).2.2,e.fit
 | 0,l,left,ts,h,h0,Q,hi,ht=>ht
 | n + 1,l,left,ts,h,h0,Q,hi,ht=>by
  rw [matL]
  by_cases hl:0 < left
  ·rw [if_pos hl]
   cases hf:bT l (othS c.s) with
   | none=>exact ht
   | some o =>
    simp only
    by_cases hm:cj c o = true
    ·rw [if_pos hm]
     obtain ⟨uC,_⟩:=ek hf
     obtain ⟨k,E⟩:=List.getElem?_of_mem uC
     have Y:=h.left o uC
     rw [dN h.rise E,Int.toNat_natCast]
     refine mat_fit (N:=N) uN n _ _ _ (dP h E (by omega) (by omega)).1 (by omega) (by omega) (fun x hx=>?_) (fun e he=>?_)
     ·rw [bQ] at hx
      split at hx
      ·rcases List.mem_append.1 hx with hx | hx
       ·exact hi x (List.mem_of_mem_take hx)
       ·exact hi x (List.mem_of_mem_drop hx)
      ·rcases List.mem_or_eq_of_mem_set hx with hx | rfl
       ·exact hi x hx
       ·exact hi o uC
     ·rcases List.mem_append.1 he with he | he
      ·exact ht e he
      ·rw [List.mem_singleton.1 he]
       exact fit_of zCm_fit ⟨by show (-9223372036854775808:Int) ≤ 3; decide,by show (3:Int) ≤ _; decide⟩ uN (hi o uC).1 (dG (by show -1000000 ≤ min left o.left; omega) (by show min left o.left ≤ 1000000; omega)) (hi o uC).2 ⟨by show (-9223372036854775808:Int) ≤ 0; decide,by show (0:Int) ≤ _; decide⟩
    ·rw [if_neg hm]; exact ht
  ·rw [if_neg hl]; exact ht
theorem ref_mh (n:Int) (l:List Od) (c:Cm):Mh (refR n l c):=by
 have f:∀ x:Int,0 ≤ x∧x ≤ 20→Mh x:=fun x h=>dG (by omega) (by omega)
 refine f _ ?_
 have hm:∀ hR:List Od × Int × List Ev,0 ≤ matR n c hR∧matR n c hR ≤ 20:=fun hR=>by
  rw [matR]; repeat' split
  all_goals omega
 have hn:0 ≤ newR n l c∧newR n l c ≤ 20:=by
  rw [newR]; repeat' split
  all_goals first | omega | exact hm _
 have hi:∀ i,0 ≤ idR l i∧idR l i ≤ 20:=fun i=>by rw [idR]; split <;> omega
 have hr:∀ i q,0 ≤ redR l i q∧redR l i q ≤ 20:=fun i q=>by
  unfold redR
  repeat' split
  all_goals omega
 rw [refR]; repeat' split
 all_goals first | omega | exact hn | exact hi _ | exact hr _ _
theorem ord_ticks {o:Od} (h:ordB o = true):1 ≤ o.ticks∧o.ticks ≤ 1000000:=by
 simp [ordB,betB] at h; omega
theorem stE_fit {n:Int} {l:List Od} {c:Cm} (h:OkB n l) (hc:CmFit c):∀ e ∈ stE n l c,e.fit:=by
 have hg:=fI h
 have z:Mh 0:=⟨by decide,by decide⟩
 have hkd:∀ x:Int,0 ≤ x→x ≤ 9→Mh x:=fun x a b=>dG (by omega) (by omega)
 have hn:Mh n:=dG (by have:=h.n1; omega) h.n2
 have uN:∀ o ∈ l,Mh o.id∧Mh o.ticks:=fun o Y=>by
  have Q:=h.id0 o Y
  have D:=h.ids o Y
  have X:=h.n2
  have h4:=ord_ticks (h.ord o Y)
  exact ⟨dG (by omega) (by omega),dG (by omega) (by omega)⟩
 rw [stE]
 by_cases h0:refR n l c = 0
 ·rw [if_pos h0]
  by_cases E:c.k = 1
  ·rw [if_pos E]
   have hq:=fg h0 E
   have hm:=mat_fit (c:=c) (N:=n) hn 21 l c.q [] hg (by omega) hq.2 uN (by simp)
   obtain ⟨g1,g2,g3⟩:=eF (c:=c) (id:=n) 21 l c.q [] hg (by omega) hq.2
   have hf:=form1 h0 E
   rw [accE,List.cons_append]
   intro e he
   rcases List.mem_cons.1 he with rfl | he
   ·exact fit_of (by show CmFit ⟨1,c.s,c.t,c.l,c.q,0,c.p,c.g⟩; rw [← hf]; exact hc) (hkd _ (by show (0:Int) ≤ 1; decide) (by show (1:Int) ≤ 9; decide)) hn z z z z
   ·rcases List.mem_append.1 he with he | he
    ·exact hm e he
    ·split at he
     ·rw [List.mem_singleton.1 he]
      refine fit_of zCm_fit ?_ hn z (dG (by show -1000000 ≤ (matL c n 21 l c.q []).2.1; omega) g3) z z
      show Mh (if bR c.t = true then 4 else 5)
      split
      ·exact hkd _ (by decide) (by decide)
      ·exact hkd _ (by decide) (by decide)
     ·cases he
  ·rw [if_neg E]
   split
   ·split
    ·next o Y =>
     intro e he
     rw [List.mem_singleton.1 he]
     have hL:=hg.left o (yP Y)
     exact fit_of zCm_fit (hkd _ (by show (0:Int) ≤ 6; decide) (by show (6:Int) ≤ 9; decide)) hc.i z (dG (by show -1000000 ≤ o.left; omega) hL.2) z z
    ·intro e he; cases he
   ·split
    ·intro e he
     rw [List.mem_singleton.1 he]
     exact fit_of zCm_fit (hkd _ (by show (0:Int) ≤ 7; decide) (by show (7:Int) ≤ 9; decide)) hc.i z hc.q z z
    ·intro e he
     rcases List.mem_cons.1 he with rfl | he
     ·have Q:=List.length_filter_le dyB l
      have D:=hg.len
      exact fit_of zCm_fit (hkd _ (by show (0:Int) ≤ 8; decide) (by show (8:Int) ≤ 9; decide)) z z (dG (by show -1000000 ≤ (((l.filter dyB).length:Nat):Int); omega) (by show (((l.filter dyB).length:Nat):Int) ≤ 1000000; omega)) z z
     ·obtain ⟨o,Y,rfl⟩:=List.mem_map.1 he
      have hm:=(List.mem_filter.1 Y).1
      have hL:=hg.left o hm
      exact fit_of zCm_fit (hkd _ (by show (0:Int) ≤ 9; decide) (by show (9:Int) ≤ 9; decide)) (uN o hm).1 z (dG (by show -1000000 ≤ o.left; omega) hL.2) z z
 ·rw [if_neg h0]
  intro e he
  rw [List.mem_singleton.1 he]
  exact fit_of (cut_fit hc) (hkd _ (by show (0:Int) ≤ 2; decide) (by show (2:Int) ≤ 9; decide)) z z z z (ref_mh n l c)
theorem stE_lenF {next:Int} {l:List Od} {c:Cm} (hg:GoodL l):(stE next l c).length ≤ 100:=by
 have hl:=hg.len
 rw [stE]
 split
 ·split
  ·have Q:=matL_few (c:=c) (id:=next) 21 l c.q []
   rw [accE]
   simp only [yQ,List.length_cons,List.length_nil] at Q ⊢
   split <;> simp <;> omega
  ·split
   ·split <;> simp
   ·split
    ·simp
    ·have Q:(l.filter dyB).length ≤ 20:=yO (List.length_filter_le _ _) hl
     simp only [List.length_cons,List.length_map]; omega
 ·simp
theorem infoIn:(Tryz.prog.info? 3).map (fun i=>(i.zero,i.size,i.bytes)) = some (some (H 0),1,8):=by kernel_rfl
def dysF:List Od→Nat→List Nat
 | [],_=>[]
 | o :: r,k=>if o.life = 1 then k :: dysF r (k + 1) else dysF r (k + 1)
def dys (l:List Od):List Nat:=dysF l 0
def nval (k:Nat):Value:=H k
abbrev IRow (W:World) (B:Nat) (v:Value) (l:List Nat):Prop:=W.ownsRow B 3 1 v l.length (l.map nval)
theorem drop_getD {l:List Od} {k:Nat} {c:Od} (h:l[k]? = some c):l.drop k = c :: l.drop (k + 1):=by
 obtain ⟨Q,rfl⟩:=yH.1 h
 exact xd Q
theorem l04Days_any (v:Value) (l:List Od) (w:World) (hr:RdR Od.vs 6 w v l) (hn:l.length ≤ 1000) :
  Calls Tryz.prog 39 #[v] w fun e w'=>∃ v',e = .returned v'∧IRow w' w.heap.size v' (dys l)∧yn w w':=by
 obtain ⟨a,cap,rfl,xD,hc⟩:=hr
 obtain ⟨i0,uJ,uD,uz,uM⟩:=info_parts infoIn
 have xr:∀ (k:Nat) (c:Od),l[k]? = some c→∃ b off,a = some (J b off)∧b < w.heap.size∧w.rangeAt b (off + k * 6) c.vs:=by
  intro k c E
  obtain ⟨b,off,Q,D,X⟩:=hc (by intro h; rw [h] at E; simp at E)
  exact ⟨b,off,Q,D,X k c E⟩
 have HC:=M xr
 clear xr hc
 have vY:=M (World.ownsRow_made (base:=w.heap.size) (e:=3) (size:=1) w #[] 0 hU (by decide) rfl)
 have xZ:Hid (yn w (w.alloc (O #[] 3))):=gZ _ _
 go_enter Tryz.func39,Tryz.ntmps39
 go_wp2_with fail
 go_loopw [3,4] (fun ov iv wr=>∃ (k:Nat) (out:List Nat),k ≤ l.length∧iv = H k∧Hid (dys l = out ++ dysF (l.drop k) k)∧out.length ≤ k∧IRow wr w.heap.size ov out∧yn w wr) (fun _ iv _=>l.length - (intOf iv).toNat)
 case atStart=>exact ⟨0,[],Nat.zero_le _,rfl,rfl,Nat.le_refl _,U vY,U xZ⟩
 case round =>
  obtain ⟨k,out,E,rfl,vD,jX,xS,xi⟩:=hrel
  have HB:=M xi
  have HO:=M xS
  have bN:=xi.size
  clear xi xS vY xZ
  by_cases xM:k < l.length
  ·obtain ⟨c,uV⟩:∃ c,l[k]? = some c:=⟨_,yI xM⟩
   have HP:Hid (dys l = out ++ if c.life = 1 then k :: dysF (l.drop (k + 1)) (k + 1) else dysF (l.drop (k + 1)) (k + 1)):=by
    have:=U vD
    rw [drop_getD uV] at this
    exact this
   obtain ⟨b,off,rfl,A,xo⟩:=U HC k c uV
   obtain ⟨g0,g1,g2,g3,g4,g5⟩:=zC (zc xo (U HB) A)
   have vj:(k:Int) < l.length:=by omega
   clear uV xo A vD
   by_cases uN:c.life = 1
   ·have HP1:Hid (dys l = (out ++ [k]) ++ dysF (l.drop (k + 1)) (k + 1)):=by
     have:=U HP
     rw [if_pos uN] at this
     show _ = _
     rw [this]; simp
    rw [uN] at g4
    clear HP uN
    go_wp2_with (at_builtin; go_must (refine wpList_append_own _ rfl _ _ 87 rfl w.heap.size 3 i0 _ 1 8 Tryz.underlying87 uJ uD uz uM rfl (by decide) _ out.length (out.map nval) rfl ((U HO).alloc _) (J wr.heap.size 0) 1 1 [nval k] rfl rfl (cellsQ wr _ _) (by simp [Value.oneCell',nval]) (by unfold maxLen; omega) (by omega) (by simp; omega) ?_); intro v4 w4 jD jt _; have oa:=M jD; have xO:=M (((U HB).alloc bN _).grown jt (by rw [zi]; omega) (fun k E=>((U HO).lt k E).1)); clear jD jt)
    go_roundw
    case rel=>exact ⟨k + 1,out ++ [k],by omega,by go_num,U HP1,by simp; omega,by show World.ownsRow _ _ _ _ _ _ _; simpa using U oa,U xO⟩
    case measure=>simp [intOf]; omega
   ·have HP1:Hid (dys l = out ++ dysF (l.drop (k + 1)) (k + 1)):=by
     have:=U HP
     rw [if_neg uN] at this
     exact this
    clear HP
    go_wp2_with fail
    go_roundw
    case rel=>exact ⟨k + 1,out,by omega,by go_num,U HP1,by omega,U HO,U HB⟩
    case measure=>simp [intOf]; omega
  ·have pO:k = l.length:=by omega
   have HE:Hid (dys l = out):=by
    have:=U vD
    rw [xb (by omega)] at this
    show _ = _
    rw [this]; simp [dysF]
   have hge:¬ ((k:Int) < l.length):=by omega
   clear vD xM pO
   go_wp2_with fail
   go_ret
   refine ⟨_,rfl,?_,U HB⟩
   rw [U HE]
   exact U HO

end Go.Proofs.YthhkapcbocgcoaaGreatDoor
