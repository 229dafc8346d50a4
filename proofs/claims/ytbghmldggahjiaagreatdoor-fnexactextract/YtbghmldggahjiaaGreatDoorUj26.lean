/-.-/
import Derived.Test.YtbghmldggahjiaaGreatDoorUj23
import Derived.Test.YtbghmldggahjiaaGreatDoorUj25
set_option linter.unusedVariables false
set_option maxHeartbeats 6400000
set_option maxRecDepth 100000
namespace Go.Proofs.YtbghmldggahjiaaGreatDoor
open Go.RowKit
theorem mat_stop {c:Cm}{id:Int}:∀(k:Nat) (l:List Od) (left:Int) (ts:List Ev),GoodL l->0<=left->left<=1000000->l.length<k->0<(matL c id k l left ts).2.1->∀o,dN (matL c id k l left ts).1 (othS c.s)=some o->dY c o=false
 | 0,l,left,ts,h,h0,D,X=>by omega
 | k+1,l,left,ts,h,h0,D,X=>by
  rw[matL]
  by_cases hl:0<left
  ·rw[if_pos hl];cases hf:dN l (othS c.s) with
   | none=>intro _ o K;simp only at K;rw[hf] at K;cases K
   | some p =>
    simp only
    by_cases hm:dY c p=true
    ·rw[if_pos hm];obtain⟨vK,_⟩:=fY hf;obtain⟨i,hi⟩:=List.getElem?_of_mem vK;have K:=h.left p vK;rw[eX h.rise hi,Int.toNat_natCast];obtain⟨g1,g2⟩:=fO h hi (qty:=min left p.left) (by omega) (by omega);rcases g2 with g2|⟨g2,g3⟩
     ·exact mat_stop k _ _ _ g1 (by omega) (by omega) (by omega)
     ·intro ot;exfalso;have:left-min left p.left=0:=by omega
      rw[this,matL_end (by omega)] at ot;simp at ot
    ·rw[if_neg hm];intro _ o K;simp only at K;rw[hf] at K;obtain rfl:=yb K;simpa using hm
  ·rw[if_neg hl];intro ot;exact absurd ot hl
def cutC (c:Cm):Cm:=⟨c.k,c.s,c.t,c.l,c.q,c.i,c.p,cutB c.g⟩
theorem cutC_short {c:Cm}(h:c.g.size<=12):cutC c=c:=by
 have e:cutB c.g=c.g:=by unfold cutB;rw[if_neg (by omega)]
 unfold cutC;rw[e]
theorem cut_long {s:ByteArray}(h:12<s.size):(cutB s).size=13:=by
 unfold cutB;rw[if_pos h];simp;omega
theorem toList_len0 {s:ByteArray}(h:12<s.size):s.toList ≠ []:=fun e=>by
 have D:s.toList=s.data.toList:=Go.ByteArray.toList_eq s;rw[D] at e;have E:s.data.toList.length=0:=by rw[e];rfl
 have h3:s.data.toList.length=s.size:=by rw[Array.length_toList];rfl
 omega
theorem refR_long {n:Int}{l:List Od}{c:Cm}(h:12<c.g.size) :
  refR n l c=if c.k=1 then(if c.i=0 then(if betB c.s 1 2=false then 3 else if betB c.t 1 5=false then 4 else if lifW c=true then 5 else if prcB c=false then 6 else if betB c.q 1 1000000=false then 7 else 8) else 2) else if c.k=2 then 2 else if c.k=3 then 2 else if c.k=4 then 2 else 1:=by
 have M:decide (([]:List UInt8)=c.g.toList)=false:=decide_eq_false fun e=>toList_len0 h e.symm;have hz:(⟨#[]⟩:ByteArray).toList = []:=by decide +kernel
 rw[refR]
 by_cases D:c.k=1
 ·rw[if_pos D,if_pos D]
  have e:dM ⟨1,c.s,c.t,c.l,c.q,0,c.p,c.g⟩ c=decide (c.i=0):=by
   rw[dM];simp only[D,beq_self_eq_true,Bool.true_and,decide_true,Bool.and_true]
   by_cases hi:c.i=0
   ·rw[hi];rfl
   ·rw[decide_eq_false hi];simpa using fun e=>hi e.symm
  rw[e]
  have en:newR n l c=if betB c.s 1 2=false then 3 else if betB c.t 1 5=false then 4 else if lifW c=true then 5 else if prcB c=false then 6 else if betB c.q 1 1000000=false then 7 else 8:=by
   rw[newR,tag_long _ (by omega),if_pos rfl]
  rw[en]
  by_cases hi:c.i=0
  ·rw[if_pos (by simpa using hi),if_pos hi]
  ·rw[if_neg (by simpa using hi),if_neg hi]
 ·rw[if_neg D,if_neg D]
  have e:∀a b:Int,∀k2:Int,dM ⟨k2,0,0,0,a,b,0,⟨#[]⟩⟩ c=false:=fun a b k2=>by
   rw[dM];simp only[hz,M,Bool.and_false]
  rw[e,e,e];simp only[if_neg Bool.false_ne_true]
theorem refR_cut {n:Int}{l:List Od}(c:Cm):refR n l (cutC c)=refR n l c:=by
 by_cases h:12<c.g.size
 ·have E:12<(cutC c).g.size:=by show 12<(cutB c.g).size;rw[cut_long h];decide
  rw[refR_long h,refR_long E];rfl
 ·rw[cutC_short (by omega)]
theorem form1 {n:Int}{l:List Od}{c:Cm}(h:refR n l c=0)(X:c.k=1):c=⟨1,c.s,c.t,c.l,c.q,0,c.p,c.g⟩:=by
 rw[refR,if_pos X] at h
 have e:dM ⟨1,c.s,c.t,c.l,c.q,0,c.p,c.g⟩ c=true:=by
  cases hs:dM ⟨1,c.s,c.t,c.l,c.q,0,c.p,c.g⟩ c
  ·rw[hs] at h;cases h
  ·rfl
 rw[dM] at e;simp only[xe,beq_iff_eq] at e;obtain⟨k,s,t,l',q,i,p,g⟩:=c;simp only at X e |-;rw[X,<- e.2.2.2.2.2.1]
theorem same_self (c:Cm):dM c c=true:=by
 rw[dM];simp
theorem toldCan {n:Int}{l:List Od}{c:Cm}(h:refR n l c=0)(X:c.k=2):refR n l ⟨2,0,0,0,0,c.i,0,⟨#[]⟩⟩=0:=by
 rw[refR,if_neg (by omega),if_pos X] at h;rw[refR,if_neg (by show ¬ (2:Int)=1;decide),if_pos (by rfl),if_pos (same_self _)];split at h
 ·exact h
 ·cases h
theorem toldRed {n:Int}{l:List Od}{c:Cm}(h:refR n l c=0)(X:c.k=3):refR n l ⟨3,0,0,0,c.q,c.i,0,⟨#[]⟩⟩=0:=by
 rw[refR,if_neg (by omega),if_neg (by omega),if_pos X] at h;rw[refR,if_neg (by show ¬ (3:Int)=1;decide),if_neg (by show ¬ (3:Int)=2;decide),if_pos (by rfl),if_pos (same_self _)];split at h
 ·exact h
 ·cases h
theorem toldDay (n:Int)(l:List Od):refR n l ⟨4,0,0,0,0,0,0,⟨#[]⟩⟩=0:=by
 rw[refR,if_neg (by show ¬ (4:Int)=1;decide),if_neg (by show ¬ (4:Int)=2;decide),if_neg (by show ¬ (4:Int)=3;decide),if_pos (by rfl),if_pos (same_self _)]
def DueIs (d:Du)(e:Ev):Prop:=d.kind=e.kind/\d.id=e.id/\d.other=e.other/\d.qty=e.qty/\d.price=e.price
def Gov:Gr->List Ev->Int->List Od->Prop
 | g,[],N,L=>g.bg≠0/\(dueG g).kind=0/\g.nx=N/\g.l=L
 | g,e::r,N,L=>okE e=true/\zx g e=0/\(g.bg≠0->DueIs (dueG g) e)/\Gov (dK g e) r N L
theorem beg_some {g:Gr}{e:Ev}(h:okE e=true):(dK g e).bg≠0:=by
 have X:=fx h;have A:begG g e≠0:=by unfold begG;split <;> omega
 unfold dK
 repeat' split
 all_goals exact A
theorem ok_tr (a b c d:Int):okE (trE a b c d)=true:=by
 simp[okE,trE,fldK,eO,eM,plainC,zCm,List.range_succ,iz]
 try decide +kernel
theorem ok_left (k:Int)(X:k=4\/k=5\/k=6\/k=7\/k=9)(a b:Int):okE ⟨k,zCm,a,0,b,0,0⟩=true:=by
 rcases X with rfl|rfl|rfl|rfl|rfl <;> (simp[okE,fldK,eO,eM,plainC,zCm,List.range_succ,iz];try decide +kernel)
theorem ok_day (b:Int):okE ⟨8,zCm,0,0,b,0,0⟩=true:=by
 simp[okE,fldK,eO,eM,plainC,zCm,List.range_succ,iz]
 try decide +kernel
theorem ok_ref (c:Cm)(r:Int)(h:c.g.size<=13):okE ⟨2,c,0,0,0,0,r⟩=true:=by
 simp[okE,fldK,eO,eM,h,List.range_succ]
 try decide +kernel
theorem ok_acc (s t l q:Int)(p:Nat)(g:ByteArray)(n:Int)(h:g.size<=13):okE ⟨1,⟨1,s,t,l,q,0,p,g⟩,n,0,0,0,0⟩=true:=by
 simp[okE,fldK,eO,eM,h,List.range_succ]
 try decide +kernel
def grT (nx:Int)(l:List Od)(c:Cm)(id left:Int):Gr:=⟨nx,l,1,c,{ ordO c id with left:=left }⟩
theorem due_T (nx:Int)(l:List Od)(c:Cm)(id left:Int):dueG (grT nx l c id left)=takD l c { ordO c id with left:=left }:=by
 unfold dueG;rw[if_pos (by rfl)];rfl
theorem gov_mat {c:Cm}{id nx N:Int}{L:List Od}:∀(k:Nat) (l:List Od) (left:Int) (ts:List Ev),GoodL l->0<=left->left<=1000000 ->
  ∃us,(matL c id k l left ts).2.2=ts++us/\∀tl,Gov (grT nx (matL c id k l left ts).1 c id (matL c id k l left ts).2.1) tl N L->Gov (grT nx l c id left) (us++tl) N L
 | 0,l,left,ts,h,h0,D=>⟨[],by simp[matL],fun tl h=>h⟩
 | k+1,l,left,ts,h,h0,D=>by
  rw[matL]
  by_cases hl:0<left
  ·rw[if_pos hl];cases hf:dN l (othS c.s) with
   | none=>exact⟨[],by simp,fun tl h=>h⟩
   | some o =>
    simp only
    by_cases hm:dY c o=true
    ·rw[if_pos hm];obtain⟨vK,_⟩:=fY hf;obtain⟨i,hi⟩:=List.getElem?_of_mem vK;have K:=h.left o vK;have uJ:=eX h.rise hi;rw[uJ,Int.toNat_natCast];obtain⟨us,e1,e2⟩:=gov_mat (c:=c) (id:=id) (nx:=nx) (N:=N) (L:=L) k (dL l i o (min left o.left)) (left-min left o.left) (ts ++ [trE id o.id (min left o.left) o.ticks]) (fO h hi (by omega) (by omega)).1 (by omega) (by omega);refine⟨trE id o.id (min left o.left) o.ticks::us,by rw[e1];simp,fun tl ht=>?_⟩;have h4:=e2 tl ht;rw[List.cons_append]
     have hd:dueG (grT nx l c id left)=⟨3,id,o.id,min left o.left,o.ticks⟩:=by
      rw[due_T,takD,if_neg (by show ¬ left=0;omega),hf];simp only[hm,if_true];rfl
     refine⟨ok_tr _ _ _ _,?_,fun _=>?_,?_⟩
     ·unfold zx;rw[if_neg (by show ¬ (3:Int)=1;decide),if_neg (by show ¬ (3:Int)=2;decide),if_neg (by show ¬ (3:Int)=6;decide),if_neg (by show ¬ (3:Int)=7;decide),if_neg (by show ¬ (3:Int)=8;decide)]
      have ko:dueR (grT nx l c id left) (trE id o.id (min left o.left) o.ticks)=0:=by
       unfold dueR;rw[hd,if_neg (by show ¬ (1:Int)=0;decide),if_neg (by show ¬ (3:Int)=0;decide),if_neg (by rintro⟨h5|h5,-⟩ <;> exact absurd (show(3:Int)=9 from h5) (by decide))]
      rw[ko,if_neg (by decide),if_pos (by rfl),hd];simp[trR,trE]
     ·rw[hd];exact⟨rfl,rfl,rfl,rfl,rfl⟩
     ·rw[step3 (by rfl)];have e3:hitI l o.id (min left o.left)=dL l i o (min left o.left):=fi uJ hi;show Gov ⟨nx,hitI l o.id (min left o.left),1,c,{ ordO c id with left:=left-min left o.left }⟩ (us++tl) N L;rw[e3];exact h4
    ·rw[if_neg hm];exact⟨[],by simp,fun tl h=>h⟩
  ·rw[if_neg hl];exact⟨[],by simp,fun tl h=>h⟩
theorem day_same:isDy=dyB:=rfl
theorem gov_day {n:Int}:∀(m:Nat) (l:List Od),ew l->(l.filter dyB).length=m->Gov ⟨n,l,8,zCm,zOd⟩ ((l.filter dyB).map expE) n (l.filter ndy)
 | 0,l,hr,hm=>by
  have he:l.filter dyB = []:=List.length_eq_zero_iff.1 hm;rw[he];refine⟨by show(8:Int)≠0;decide,?_,rfl,?_⟩
  ·unfold dueG;rw[if_neg (by show ¬ (8:Int)=1;decide),if_pos (by rfl)];show(dayD l).kind=0
   have hf:l.find? isDy=none:=by
    rw[List.find?_eq_none];intro x hx hd;have:x∈l.filter dyB:=List.mem_filter.2 ⟨hx,hd⟩;rw[he] at this;cases this
   unfold dayD;rw[hf];rfl
  ·show l=l.filter ndy;refine(List.filter_eq_self.2 fun x hx=>?_).symm;cases hd:ndy x
   ·exfalso;have:x∈l.filter dyB:=List.mem_filter.2 ⟨hx,by simp only[ndy,Bool.not_eq_false'] at hd;exact hd⟩;rw[he] at this;cases this
   ·rfl
 | m+1,l,hr,hm=>by
  have hf:∃o,l.find? isDy=some o:=by
   cases h:l.find? isDy with
   | some o=>exact⟨o,rfl⟩
   | none =>
    exfalso;rw[List.find?_eq_none] at h;have:l.filter dyB = []:=List.filter_eq_nil_iff.2 h;rw[this] at hm;cases hm
  obtain⟨o,hf⟩:=hf;obtain⟨hd,xs,ys,rfl,vZ⟩:=List.find?_eq_some_iff_append.1 hf;have hno':∀a∈xs,dyB a=false:=fun a ha=>by show isDy a=false;simpa using vZ a ha
  have ea:xs.filter dyB = []:=List.filter_eq_nil_iff.2 fun a ha=>by rw[hno' a ha];decide
  have e1:(xs++o::ys).filter dyB=o::ys.filter dyB:=by
   rw[List.filter_append,ea,List.nil_append,List.filter_cons_of_pos (show dyB o=true from hd)]
  have hdn:ndy o=false:=by show(!dyB o)=false;have:dyB o=true:=hd;rw[this];rfl
  have e2:(xs++o::ys).filter ndy=(xs++ys).filter ndy:=by
   rw[List.filter_append,List.filter_append,List.filter_cons_of_neg (by rw[hdn];decide)]
  have e3:(xs++ys).filter dyB=ys.filter dyB:=by rw[List.filter_append,ea,List.nil_append]
  have X:(xs++o::ys)[xs.length]? = some o:=by simp
  have uJ:=eX hr X;have hr2:ew (xs++ys):=List.Pairwise.sublist (List.Sublist.append (List.Sublist.refl xs) (List.sublist_cons_self o ys)) hr;have ih:=gov_day (n:=n) m (xs++ys) hr2 (by rw[e3];rw[e1] at hm;simpa using hm);rw[e3] at ih
  have hdue:dueG ⟨n,xs++o::ys,8,zCm,zOd⟩=⟨9,o.id,0,o.left,0⟩:=by
   unfold dueG;rw[if_neg (by show ¬ (8:Int)=1;decide),if_pos (by rfl)];show dayD (xs++o::ys) = _;unfold dayD;rw[hf]
  have hhit:hitI (xs++o::ys) o.id o.left=xs++ys:=by
   rw[fi uJ X,dL,if_pos rfl];simp
  rw[e1,e2,List.map_cons];refine⟨ok_left 9 (.inr (.inr (.inr (.inr rfl)))) _ _,?_,fun _=>?_,?_⟩
  ·unfold zx;rw[if_neg (by show ¬ (9:Int)=1;decide),if_neg (by show ¬ (9:Int)=2;decide),if_neg (by show ¬ (9:Int)=6;decide),if_neg (by show ¬ (9:Int)=7;decide),if_neg (by show ¬ (9:Int)=8;decide)]
   have ko:dueR ⟨n,xs++o::ys,8,zCm,zOd⟩ (expE o)=0:=by
    unfold dueR;rw[hdue];simp[dO,expE]
   rw[ko,if_neg (by decide),if_neg (by show ¬ (9:Int)=3;decide),if_pos (by rfl)]
  ·rw[hdue];exact⟨rfl,rfl,rfl,rfl,rfl⟩
  ·rw[step9 (by rfl),hdue];show Gov ⟨n,hitI (xs++o::ys) o.id o.left,8,zCm,zOd⟩ _ n _;rw[hhit];exact ih
theorem gov_good {n:Int}{l:List Od}{c:Cm}(M:GoodL l):Gov (gr0 n l) (stE n l c) (stN n l c) (stL n l c):=by
 rw[stE,stN,stL]
 by_cases h0:refR n l c=0
 ·rw[if_pos h0,if_pos h0]
  by_cases X:c.k=1
  ·rw[if_pos X,if_pos X,if_pos ⟨h0,X⟩];have hq:=ref_newq h0 X;have hf:=form1 h0 X;have hn:=ref_new h0 X
   have htg:c.g.size<=13:=by
    rcases Nat.lt_or_ge 13 c.g.size with hgt|uB
    ·exfalso;rw[refR_long (by omega),if_pos X] at h0;revert h0
     repeat' split
     all_goals (intro h;cases h)
    ·exact uB
   obtain⟨us,e1,e2⟩:=gov_mat (c:=c) (id:=n) (nx:=n+1) (N:=n+1) (L:=accL c n (matL c n 21 l c.q [])) 21 l c.q [] M (by omega) hq.2;obtain⟨g1,g2,g3⟩:=iB (c:=c) (id:=n) 21 l c.q [] M (by omega) hq.2;have pK:=mat_stop (c:=c) (id:=n) 21 l c.q [] M (by omega) hq.2 (by have:=M.len;omega);generalize matL c n 21 l c.q []=yl at e1 e2 g1 g2 g3 pK |-;rw[accE,e1,List.nil_append,List.cons_append];refine⟨ok_acc _ _ _ _ _ _ _ htg,?_,fun A=>absurd (show(gr0 n l).bg=0 from rfl) A,?_⟩
   ·unfold zx
    have hs:zX (gr0 n l) ⟨1,⟨1,c.s,c.t,c.l,c.q,0,c.p,c.g⟩,n,0,0,0,0⟩=0:=by
     have ht:zV ⟨1,⟨1,c.s,c.t,c.l,c.q,0,c.p,c.g⟩,n,0,0,0,0⟩=c:=by unfold zV;rw[if_pos (by rfl)];exact hf.symm
     unfold zX;rw[if_neg (by show ¬ (0:Int)≠0;decide),ht];show(if refR n l c≠0 then(5:Int) else 0)=0
     rw[h0];rfl
    rw[if_pos (by rfl),hs,if_neg (by decide)];exact if_pos rfl
   ·rw[step1 (by rfl)]
    have ec:(⟨n+1,l,begG (gr0 n l) ⟨1,⟨1,c.s,c.t,c.l,c.q,0,c.p,c.g⟩,n,0,0,0,0⟩,⟨1,c.s,c.t,c.l,c.q,0,c.p,c.g⟩,ordO ⟨1,c.s,c.t,c.l,c.q,0,c.p,c.g⟩ n⟩:Gr)=grT (n+1) l c n c.q:=by
     rw[<- hf];rfl
    show Gov (⟨n+1,l,begG (gr0 n l) ⟨1,⟨1,c.s,c.t,c.l,c.q,0,c.p,c.g⟩,n,0,0,0,0⟩,⟨1,c.s,c.t,c.l,c.q,0,c.p,c.g⟩,ordO ⟨1,c.s,c.t,c.l,c.q,0,c.p,c.g⟩ n⟩:Gr) _ _ _;rw[ec];refine e2 _ ?_
    by_cases hl:0<yl.2.1
    ·rw[if_pos hl]
     have hd:dueG (grT (n+1) yl.1 c n yl.2.1)=lftD c { ordO c n with left:=yl.2.1 }:=by
      rw[due_T,takD,if_neg (by show ¬ yl.2.1=0;omega)];cases hf2:dN yl.1 (othS c.s) with
      | none=>rfl
      | some o=>simp only;rw[if_neg (by rw[pK hl o hf2];decide)]
     by_cases hr:dP c.t=true
     ·rw[if_pos hr];rw[lftD,if_pos hr] at hd;refine⟨ok_left 4 (.inl rfl) _ _,?_,fun _=>?_,?_⟩
      ·unfold zx;rw[if_neg (by show ¬ (4:Int)=1;decide),if_neg (by show ¬ (4:Int)=2;decide),if_neg (by show ¬ (4:Int)=6;decide),if_neg (by show ¬ (4:Int)=7;decide),if_neg (by show ¬ (4:Int)=8;decide)]
       have ko:dueR (grT (n+1) yl.1 c n yl.2.1) ⟨4,zCm,n,0,yl.2.1,0,0⟩=0:=by
        unfold dueR;rw[hd,if_neg (by show ¬ (1:Int)=0;decide),if_neg (by show ¬ (4:Int)=0;decide),if_neg (by rintro⟨h5|h5,-⟩ <;> exact absurd (show(4:Int)=9 from h5) (by decide))]
       rw[ko,if_neg (by decide),if_neg (by show ¬ (4:Int)=3;decide),if_neg (by show ¬ (4:Int)=9;decide),hd];simp[dO,ordO]
      ·rw[hd];exact⟨rfl,rfl,rfl,rfl,rfl⟩
      ·rw[step4 (by rfl)];refine⟨by show(1:Int)≠0;decide,?_,rfl,?_⟩
       ·unfold dueG;rw[if_pos (by rfl)];show(takD _ _ _).kind=0;rw[takD,if_pos (by rfl)];rfl
       ·show yl.1 ++ [_]=accL c n yl;rw[accL,if_pos ⟨hl,hr⟩];rfl
     ·rw[if_neg hr];rw[lftD,if_neg hr] at hd;refine⟨ok_left 5 (.inr (.inl rfl)) _ _,?_,fun _=>?_,?_⟩
      ·unfold zx;rw[if_neg (by show ¬ (5:Int)=1;decide),if_neg (by show ¬ (5:Int)=2;decide),if_neg (by show ¬ (5:Int)=6;decide),if_neg (by show ¬ (5:Int)=7;decide),if_neg (by show ¬ (5:Int)=8;decide)]
       have ko:dueR (grT (n+1) yl.1 c n yl.2.1) ⟨5,zCm,n,0,yl.2.1,0,0⟩=0:=by
        unfold dueR;rw[hd,if_neg (by show ¬ (1:Int)=0;decide),if_neg (by show ¬ (5:Int)=0;decide),if_neg (by rintro⟨h5|h5,-⟩ <;> exact absurd (show(5:Int)=9 from h5) (by decide))]
       rw[ko,if_neg (by decide),if_neg (by show ¬ (5:Int)=3;decide),if_neg (by show ¬ (5:Int)=9;decide),hd];simp[dO,ordO]
      ·rw[hd];exact⟨rfl,rfl,rfl,rfl,rfl⟩
      ·rw[step5 (by rfl)];refine⟨by show(1:Int)≠0;decide,?_,rfl,?_⟩
       ·unfold dueG;rw[if_pos (by rfl)];show(takD _ _ _).kind=0;rw[takD,if_pos (by rfl)];rfl
       ·show yl.1=accL c n yl;rw[accL,if_neg (fun(x:0<yl.2.1/\dP c.t=true)=>hr x.2)]
    ·rw[if_neg hl];have hz:yl.2.1=0:=by omega
     refine⟨by show(1:Int)≠0;decide,?_,rfl,?_⟩
     ·rw[due_T,takD,if_pos (by show yl.2.1=0;exact hz)];rfl
     ·show yl.1=accL c n yl;rw[accL,if_neg (fun(x:0<yl.2.1/\dP c.t=true)=>hl x.1)]
  ·rw[if_neg X,if_neg X,if_neg (fun(x:refR n l c=0/\c.k=1)=>X x.2)]
   by_cases E:c.k=2
   ·rw[if_pos E,if_pos E];have ht:=toldCan h0 E;obtain⟨k,o,hp,K,hoi⟩:=plc_pos (ref_can ht);rw[hp,Int.toNat_natCast,K];simp only;refine⟨ok_left 6 (.inr (.inr (.inl rfl))) _ _,?_,fun A=>absurd (show(gr0 n l).bg=0 from rfl) A,?_⟩
    ·unfold zx;rw[if_neg (by show ¬ (6:Int)=1;decide),if_neg (by show ¬ (6:Int)=2;decide),if_pos (by rfl)]
     have hs:zX (gr0 n l) ⟨6,zCm,c.i,0,o.left,0,0⟩=0:=by
      unfold zX;rw[if_neg (by show ¬ (0:Int)≠0;decide)];show(if refR n l ⟨2,0,0,0,0,c.i,0,⟨#[]⟩⟩≠0 then(5:Int) else 0)=0
      rw[ht];rfl
     rw[hs,if_neg (by decide)];refine if_pos ?_;show o.left=leftAt l c.i;exact(leftAt_at hp K).symm
    ·rw[step6 (by rfl)];refine⟨by show(6:Int)≠0;decide,?_,rfl,?_⟩
     ·unfold dueG;rw[if_neg (by show ¬ (6:Int)=1;decide),if_neg (by show ¬ (6:Int)=8;decide)];rfl
     ·show hitI l c.i o.left = _;rw[fi hp K]
   ·rw[if_neg E,if_neg E]
    by_cases h3:c.k=3
    ·rw[if_pos h3,if_pos h3];have ht:=toldRed h0 h3;obtain⟨k,o,hp,K,hoi,-⟩:=ref_red ht;rw[hp,Int.toNat_natCast,K];refine⟨ok_left 7 (.inr (.inr (.inr (.inl rfl)))) _ _,?_,fun A=>absurd (show(gr0 n l).bg=0 from rfl) A,?_⟩
     ·unfold zx;rw[if_neg (by show ¬ (7:Int)=1;decide),if_neg (by show ¬ (7:Int)=2;decide),if_neg (by show ¬ (7:Int)=6;decide),if_pos (by rfl)];unfold zX;rw[if_neg (by show ¬ (0:Int)≠0;decide)];show(if refR n l ⟨3,0,0,0,c.q,c.i,0,⟨#[]⟩⟩≠0 then(5:Int) else 0)=0
      rw[ht];rfl
     ·rw[step7 (by rfl)];refine⟨by show(7:Int)≠0;decide,?_,rfl,?_⟩
      ·unfold dueG;rw[if_neg (by show ¬ (7:Int)=1;decide),if_neg (by show ¬ (7:Int)=8;decide)];rfl
      ·show setI l c.i c.q = _;rw[setI_at hp K]
    ·rw[if_neg h3,if_neg h3];refine⟨ok_day _,?_,fun A=>absurd (show(gr0 n l).bg=0 from rfl) A,?_⟩
     ·unfold zx;rw[if_neg (by show ¬ (8:Int)=1;decide),if_neg (by show ¬ (8:Int)=2;decide),if_neg (by show ¬ (8:Int)=6;decide),if_neg (by show ¬ (8:Int)=7;decide),if_pos (by rfl)]
      have hs:zX (gr0 n l) ⟨8,zCm,0,0,((l.filter dyB).length:Nat),0,0⟩=0:=by
       unfold zX;rw[if_neg (by show ¬ (0:Int)≠0;decide)];show(if refR n l ⟨4,0,0,0,0,0,0,⟨#[]⟩⟩≠0 then(5:Int) else 0)=0
       rw[toldDay];rfl
      rw[hs,if_neg (by decide)];exact if_pos rfl
     ·rw[step8 (by rfl)];exact gov_day _ l M.rise rfl
 ·rw[if_neg h0,if_neg h0,if_neg (fun(x:refR n l c=0/\c.k=1)=>h0 x.1)];refine⟨ok_ref (cutC c) _ (cutB_size _),?_,fun A=>absurd (show(gr0 n l).bg=0 from rfl) A,?_⟩
  ·unfold zx;rw[if_neg (by show ¬ (2:Int)=1;decide),if_pos (by rfl),if_neg (by show ¬ (0:Int)≠0;decide)];refine if_pos ?_;have e:refR n l (cutC c)=refR n l c:=refR_cut c;exact⟨by show refR n l (cutC c)≠0;rw[e];exact h0,e⟩
  ·rw[step2 (by rfl)];refine⟨by show(2:Int)≠0;decide,?_,rfl,rfl⟩;unfold dueG;rw[if_neg (by show ¬ (2:Int)=1;decide),if_neg (by show ¬ (2:Int)=8;decide)];rfl
theorem infoIn:(Tryz.prog.info? 3).map (fun i=>(i.zero,i.size,i.bytes))=some (some (H 0),1,8):=by kernel_rfl
def dysF:List Od->Nat->List Nat
 | [],_=>[]
 | o::r,k=>if o.life=1 then k::dysF r (k+1) else dysF r (k+1)
def dys (l:List Od):List Nat:=dysF l 0
def nval (k:Nat):Value:=H k
abbrev IRow (W:World)(B:Nat)(v:Value)(l:List Nat):Prop:=W.ownsRow B 3 1 v l.length (l.map nval)
theorem drop_getD {l:List Od}{k:Nat}{c:Od}(h:l[k]? = some c):l.drop k=c::l.drop (k+1):=by
 obtain⟨D,rfl⟩:=yG.1 h;exact xc D
theorem l04Days_any (v:Value)(l:List Od)(w:World)(hr:RdR Od.vs 6 w v l)(hn:l.length<=1000) :
  Calls Tryz.prog 168 #[v] w fun e w'=>∃v',e = .returned v'/\IRow w' w.heap.size v' (dys l)/\yn w w':=by
 obtain⟨a,cap,rfl,xD,hc⟩:=hr;obtain⟨i0,vA,uE,uw,uC⟩:=info_parts infoIn
 have xp:∀(k:Nat) (c:Od),l[k]? = some c->∃b off,a=some (U b off)/\b<w.heap.size/\w.rangeAt b (off+k*6) c.vs:=by
  intro k c X;obtain⟨b,off,D,E,h3⟩:=hc (by intro h;rw[h] at X;simp at X);exact⟨b,off,D,E,h3 k c X⟩
 have HC:=Q xp;clear xp hc;have HO0:=Q (World.ownsRow_made (base:=w.heap.size) (e:=3) (size:=1) w #[] 0 ya (by decide) rfl);have qe:Hid (yn w (w.alloc (J #[] 3))):=lT _ _;go_enter Tryz.func168,Tryz.ntmps168;go_wp2_with fail;go_loopw [3,4] (fun ov iv wr=>∃(k:Nat) (out:List Nat),k<=l.length/\iv=H k/\Hid (dys l=out++dysF (l.drop k) k)/\out.length<=k/\IRow wr w.heap.size ov out/\yn w wr) (fun _ iv _=>l.length-(intOf iv).toNat)
 case atStart=>exact⟨0,[],Nat.zero_le _,rfl,rfl,Nat.le_refl _,Z HO0,Z qe⟩
 case round =>
  obtain⟨k,out,X,rfl,uJ,pt,xL,xk⟩:=hrel;have HB:=Q xk;have HO:=Q xL;have uX:=xk.size;clear xk xL HO0 qe
  by_cases xH:k<l.length
  ·obtain⟨c,qk⟩:∃c,l[k]? = some c:=⟨_,yH xH⟩
   have HP:Hid (dys l=out++if c.life=1 then k::dysF (l.drop (k+1)) (k+1) else dysF (l.drop (k+1)) (k+1)):=by
    have:=Z uJ;rw[drop_getD qk] at this;exact this
   obtain⟨b,off,rfl,A,xm⟩:=Z HC k c qk;obtain⟨g0,g1,g2,g3,g4,g5⟩:=zM (zd xm (Z HB) A);have uq:(k:Int)<l.length:=by omega
   clear qk xm A uJ
   by_cases uf:c.life=1
   ·have HP1:Hid (dys l=(out ++ [k])++dysF (l.drop (k+1)) (k+1)):=by
     have:=Z HP;rw[if_pos uf] at this;show _ = _;rw[this];simp
    rw[uf] at g4;clear HP uf;go_wp2_with (at_builtin;go_must (refine wpList_append_own _ rfl _ _ 193 rfl w.heap.size 3 i0 _ 1 8 Tryz.underlying193 vA uE uw uC rfl (by decide) _ out.length (out.map nval) rfl ((Z HO).alloc _) (U wr.heap.size 0) 1 1 [nval k] rfl rfl (cellsQ wr _ _) (by simp[Value.oneCell',nval]) (by unfold maxLen;omega) (by omega) (by simp;omega) ?_);intro v4 w4 pJ dw _;have cQ:=Q pJ;have xK:=Q (((Z HB).alloc uX _).grown dw (by rw[zh];omega) (fun k X=>((Z HO).lt k X).1));clear pJ dw)
    go_roundw
    case rel=>exact⟨k+1,out ++ [k],by omega,by go_num,Z HP1,by simp;omega,by show World.ownsRow _ _ _ _ _ _ _;simpa using Z cQ,Z xK⟩
    case measure=>simp[intOf];omega
   ·have HP1:Hid (dys l=out++dysF (l.drop (k+1)) (k+1)):=by
     have:=Z HP;rw[if_neg uf] at this;exact this
    clear HP;go_wp2_with fail;go_roundw
    case rel=>exact⟨k+1,out,by omega,by go_num,Z HP1,by omega,Z HO,Z HB⟩
    case measure=>simp[intOf];omega
  ·have hke:k=l.length:=by omega
   have HE:Hid (dys l=out):=by
    have:=Z uJ;rw[xa (by omega)] at this;show _ = _;rw[this];simp[dysF]
   have hge:¬ ((k:Int)<l.length):=by omega
   clear uJ xH hke;go_wp2_with fail;go_ret;refine⟨_,rfl,?_,Z HB⟩;rw[Z HE];exact Z HO
end Go.Proofs.YtbghmldggahjiaaGreatDoor
