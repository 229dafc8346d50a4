/-.-/
import Derived.Test.YtbghmldggahjiaaGreatDoorUj24
set_option linter.unusedVariables false
set_option maxHeartbeats 6400000
set_option maxRecDepth 100000
namespace Go.Proofs.YtbghmldggahjiaaGreatDoor
open Go.RowKit
theorem hit_side {l:List Od}{k:Nat}{o:Od}{q:Int}(X:l[k]? = some o)(hs:∀x∈l,x.side=1\/x.side=2):∀x∈dL l k o q,x.side=1\/x.side=2:=by
 intro x hx;unfold dL at hx;split at hx
 ·rcases List.mem_append.1 hx with h|h
  ·exact hs x (List.mem_of_mem_take h)
  ·exact hs x (List.mem_of_mem_drop h)
 ·rcases List.mem_or_eq_of_mem_set hx with h|rfl
  ·exact hs x h
  ·exact hs o (yO X)
theorem matL_side {c:Cm}{id:Int}:∀(n:Nat) (l:List Od) (left:Int) (ts:List Ev),ew l->GoodL l->0<=left->left<=1000000->(∀x∈l,x.side=1\/x.side=2)->∀x∈(matL c id n l left ts).1,x.side=1\/x.side=2
 | 0,l,left,ts,_,_,_,_,hs=>hs
 | n+1,l,left,ts,hr,M,h0,D,hs=>by
  rw[matL]
  by_cases hl:0<left
  ·rw[if_pos hl];cases hf:dN l (othS c.s) with
   | none=>exact hs
   | some o =>
    simp only
    by_cases hm:dY c o=true
    ·rw[if_pos hm];obtain⟨vK,_⟩:=fY hf;obtain⟨k,X⟩:=List.getElem?_of_mem vK;have K:=M.left o vK;rw[eX hr X,Int.toNat_natCast];have uZ:=(fO M X (qty:=min left o.left) (by omega) (by omega)).1;exact matL_side n _ _ _ uZ.rise uZ (by omega) (by omega) (hit_side X hs)
    ·rw[if_neg hm];exact hs
  ·rw[if_neg hl];exact hs
def fullS (l:List Od)(t:Od):Bool:=decide (l.length=20)||decide (8<nlev (l ++ [t]))
theorem full_eq {l:List Od}{t:Od}(hl:l.length<=20)(hs:∀x∈l ++ [t],x.side=1\/x.side=2):fullB (l ++ [t])=fullS l t:=by
 unfold fullB fullS;have hn:=nlev_eq hs (gz true _) (gz false _)
 by_cases h:l.length=20
 ·rw[if_pos (by simp;omega)];simp[h]
 ·rw[if_neg (by simp;omega),dX,dX,List.length_map,List.length_map,hn];simp only[h,decide_false,Bool.false_or];rw[Bool.eq_iff_iff];simp only[xf];omega
def matS (next:Int)(c:Cm)(yl:List Od × Int × List Ev):Int:=
 if c.t=5/\0<yl.2.2.length then 11 else if c.t=4/\0<yl.2.1 then 12 else if next=1000000 then 13
 else if dP c.t=true then(if 0<yl.2.1 then(if yl.1.length=20 then 13 else if 8<nlev (yl.1 ++ [⟨next,c.s,tkS c.p,yl.2.1,c.l,c.g⟩]) then 13 else 0) else 0) else 0
theorem matS_eq {next:Int}{c:Cm}{l:List Od}(M:GoodL l)(vh:∀x∈l,x.side=1\/x.side=2)(hs:betB c.s 1 2=true)(hp:prcB c=true)(hq:betB c.q 1 1000000=true):matS next c (matL c next 21 l c.q [])=matR next c (matL c next 21 l c.q []):=by
 have hq':1<=c.q/\c.q<=1000000:=by simpa[betB] using hq
 have kq:=iB (c:=c) (id:=next) 21 l c.q [] M (by omega) (by omega);have hside:=matL_side (c:=c) (id:=next) 21 l c.q [] M.rise M (by omega) (by omega) vh;generalize matL c next 21 l c.q []=yl at *;unfold matS matR
 by_cases D:c.t=5/\0<yl.2.2.length
 ·rw[if_pos D,if_pos D]
 rw[if_neg D,if_neg D]
 by_cases E:c.t=4/\0<yl.2.1
 ·rw[if_pos E,if_pos E]
 rw[if_neg E,if_neg E]
 by_cases h3:next=1000000
 ·rw[if_pos h3,if_pos h3]
 rw[if_neg h3,if_neg h3]
 by_cases h4:dP c.t=true
 ·by_cases h5:0<yl.2.1
  ·rw[if_pos h4,if_pos h5,if_pos (show dP c.t=true/\0<yl.2.1 from⟨h4,h5⟩)]
   have kY:c.t≠2:=by
    intro e;rw[e] at h4;exact absurd h4 (by decide)
   have ql:tkOk c.p=true:=by unfold prcB at hp;rw[if_neg kY] at hp;exact hp
   have K:({ ordO c next with left:=yl.2.1 }:Od)=⟨next,c.s,tkS c.p,yl.2.1,c.l,c.g⟩:=by
    unfold ordO;rw[tkS_ok ql]
   rw[K]
   have hfe:=full_eq (l:=yl.1) (t:=⟨next,c.s,tkS c.p,yl.2.1,c.l,c.g⟩) kq.1.len (fun x hx=>by
    rcases List.mem_append.1 hx with h|h
    ·exact hside x h
    ·simp at h;subst h;exact side_of hs)
   rw[hfe];unfold fullS
   by_cases h6:yl.1.length=20
   ·simp[h6]
   ·by_cases h7:8<nlev (yl.1 ++ [⟨next,c.s,tkS c.p,yl.2.1,c.l,c.g⟩])
    ·simp[h6,h7]
    ·simp[h6,h7]
  ·rw[if_pos h4,if_neg h5,if_neg (by simp[h5])]
 ·rw[if_neg h4,if_neg (by simp[h4])]
def refS (next:Int)(l:List Od)(c:Cm):Int:=
 if betB c.k 1 4=false then 1 else if dW c=false then 2 else if c.k=1 then newR next l c else if c.k=4 then 0
 else if c.k=3/\betB c.q 1 1000000=false then 7 else if plc l c.i<0 then 9
 else match l[(plc l c.i).toNat]? with|some o=>if c.k=3/\o.left<=c.q then 10 else 0|none=>0
theorem same_form {k s t l q i:Int}{p:Nat}{g:ByteArray}(X:k=1\/k=2\/k=3\/k=4):dW ⟨k,s,t,l,q,i,p,g⟩=(if k=1 then dM ⟨1,s,t,l,q,0,p,g⟩ ⟨k,s,t,l,q,i,p,g⟩ else if k=2 then dM ⟨2,0,0,0,0,i,0,⟨#[]⟩⟩ ⟨k,s,t,l,q,i,p,g⟩ else if k=3 then dM ⟨3,0,0,0,q,i,0,⟨#[]⟩⟩ ⟨k,s,t,l,q,i,p,g⟩ else dM ⟨4,0,0,0,0,0,0,⟨#[]⟩⟩ ⟨k,s,t,l,q,i,p,g⟩):=by
 have hz:fbit 0=0:=by decide
 have he:(⟨#[]⟩:ByteArray).toList = []:=by unfold ByteArray.toList;rw[ByteArray.toList.loop];rfl
 have M:∀x:List UInt8,decide ([]=x)=x.isEmpty:=by intro x;cases x <;> rfl
 rw[Bool.eq_iff_iff];rcases X with rfl|rfl|rfl|rfl
 ·simp[dW,dM];omega
 ·simp[dW,dM,hz,he];constructor
  ·rintro⟨⟨D,E,h3,h4,h5⟩,h6⟩;exact⟨D.symm,E.symm,h3.symm,h6.symm,h4.symm,h5⟩
  ·rintro⟨D,E,h3,h6,h4,h5⟩;exact⟨⟨D.symm,E.symm,h3.symm,h4.symm,h5⟩,h6.symm⟩
 ·simp[dW,dM,hz,he];constructor
  ·rintro⟨D,E,h3,h4,h5⟩;exact⟨D.symm,E.symm,h3.symm,h4.symm,h5⟩
  ·rintro⟨D,E,h3,h4,h5⟩;exact⟨D.symm,E.symm,h3.symm,h4.symm,h5⟩
 ·simp[dW,dM,hz,he];constructor
  ·rintro⟨⟨D,E,h3,h4,h5⟩,h6,h7⟩;exact⟨D.symm,E.symm,h3.symm,h6.symm,h7.symm,h4.symm,h5⟩
  ·rintro⟨D,E,h3,h6,h7,h4,h5⟩;exact⟨⟨D.symm,E.symm,h3.symm,h4.symm,h5⟩,h6.symm,h7.symm⟩
theorem ref_eq (next:Int)(l:List Od)(c:Cm):refS next l c=refR next l c:=by
 obtain⟨k,s,t,li,q,i,p,g⟩:=c
 by_cases X:k=1\/k=2\/k=3\/k=4
 ·have A:betB k 1 4=true:=by simp[betB];omega
  have hf:=same_form (s:=s) (t:=t) (l:=li) (q:=q) (i:=i) (p:=p) (g:=g) X;unfold refS refR;simp only[A,hf];rcases X with rfl|rfl|rfl|rfl
  ·simp;cases dM ⟨1,s,t,li,q,0,p,g⟩ ⟨1,s,t,li,q,i,p,g⟩ <;> simp
  ·simp;cases dM ⟨2,0,0,0,0,i,0,⟨#[]⟩⟩ ⟨2,s,t,li,q,i,p,g⟩ <;> simp[idR]
   rcases iZ l i with e|⟨k,o,e,K⟩
   ·rw[e];rfl
   ·rw[e];simp[K]
  ·simp;cases dM ⟨3,0,0,0,q,i,0,⟨#[]⟩⟩ ⟨3,s,t,li,q,i,p,g⟩ <;> simp[redR]
   cases betB q 1 1000000 <;> simp
   rcases iZ l i with e|⟨k,o,e,K⟩
   ·rw[e];rfl
   ·rw[e];simp[K]
  ·simp;cases dM ⟨4,0,0,0,0,0,0,⟨#[]⟩⟩ ⟨4,s,t,li,q,i,p,g⟩ <;> simp
 ·have A:betB k 1 4=false:=by
   cases h:betB k 1 4
   ·rfl
   ·simp[betB] at h;omega
  unfold refS refR;simp only[A];simp;rw[if_neg (by omega),if_neg (by omega),if_neg (by omega),if_neg (by omega)]
structure Inv (next:Int) (l:List Od):Prop where
 good:GoodL l
 side:∀o∈l,o.side=1\/o.side=2
 ids:∀o∈l,o.id<next
theorem inv_start:Inv 1 []:=⟨⟨by simp,by simp,List.Pairwise.nil⟩,by simp,by simp⟩
theorem hit_ids {l:List Od}{k:Nat}{o:Od}{q:Int}(X:l[k]? = some o){b:Int}(h:∀x∈l,x.id<b):∀x∈dL l k o q,x.id<b:=by
 intro x hx;rw[dL] at hx;split at hx
 ·rcases List.mem_append.1 hx with D|D
  ·exact h x (List.mem_of_mem_take D)
  ·exact h x (List.mem_of_mem_drop D)
 ·rcases List.mem_or_eq_of_mem_set hx with D|rfl
  ·exact h x D
  ·exact h o (yO X)
theorem matL_ids {c:Cm}{id b:Int}:∀(n:Nat) (l:List Od) (left:Int) (ts:List Ev),ew l->GoodL l->0<=left->left<=1000000->(∀x∈l,x.id<b)->∀x∈(matL c id n l left ts).1,x.id<b:=by
 intro n
 induction n with
 | zero=>intro l left ts _ _ _ _ h x hx;exact h x hx
 | succ n ih =>
  intro l left ts hr M h0 D h x hx;rw[matL] at hx;split at hx
  ·next xH =>
   split at hx
   ·exact h x hx
   ·next o hf =>
    split at hx
    ·obtain⟨vK,_⟩:=fY hf;obtain⟨k,X⟩:=List.getElem?_of_mem vK;have hp:=eX hr X;have hpt:(plc l o.id).toNat=k:=by rw[hp];rfl
     rw[hpt] at hx;have K:=M.left o vK;have hgh:=fO M X (qty:=min left o.left) (by omega) (by omega);exact ih _ _ _ hgh.1.rise hgh.1 (by omega) (by omega) (hit_ids X h) x hx
    ·exact h x hx
  ·exact h x hx
theorem inv_step {next:Int}{l:List Od}(c:Cm)(h:Inv next l)(h0:0<=next)(D:next<=1000000):Inv (stN next l c) (stL next l c)/\next<=stN next l c/\stN next l c<=next+1:=by
 rw[stN,stL]
 by_cases hr:refR next l c=0
 ·rw[if_pos hr]
  by_cases X:c.k=1
  ·rw[if_pos ⟨hr,X⟩,if_pos X];refine⟨?_,by omega,by omega⟩;have hq:=ref_newq hr X;have hn:=ref_new hr X;have M:=iB (c:=c) (id:=next) 21 l c.q [] h.good (by omega) hq.2;have hs:=matL_side (c:=c) (id:=next) 21 l c.q [] h.good.rise h.good (by omega) hq.2 h.side;have hi:=matL_ids (c:=c) (id:=next) (b:=next) 21 l c.q [] h.good.rise h.good (by omega) hq.2 h.ids;rw[newR] at hn;split at hn
   ·cases hn
   rename_i vh;split at hn
   ·cases hn
   split at hn
   ·cases hn
   split at hn
   ·cases hn
   split at hn
   ·cases hn
   split at hn
   ·cases hn
   have vh:c.s=1\/c.s=2:=side_of (by simpa using vh);generalize matL c next 21 l c.q []=yl at M hs hi hn |-;rw[accL];split
   ·next hre =>
    rw[matR] at hn;split at hn
    ·cases hn
    split at hn
    ·cases hn
    split at hn
    ·cases hn
    rw[if_pos ⟨hre.2,hre.1⟩] at hn;split at hn
    ·cases hn
    rename_i hfu
    have xD:(yl.1 ++ [{ ordO c next with left:=yl.2.1 }]).length<=20:=by
     rcases Nat.lt_or_ge 20 (yl.1 ++ [{ ordO c next with left:=yl.2.1 }]).length with hh|hh
     ·exact absurd (show fullB (yl.1 ++ [{ ordO c next with left:=yl.2.1 }])=true by rw[fullB];exact if_pos hh) (by simpa using hfu)
     ·exact hh
    refine⟨⟨by simpa using xD,?_,?_⟩,?_,?_⟩
    ·intro o K;rcases List.mem_append.1 K with K|K
     ·exact M.1.left o K
     ·simp at K;subst K;exact⟨hre.1,M.2.2⟩
    ·refine List.pairwise_append.2 ⟨M.1.rise,List.pairwise_singleton _ _,fun a ha b A=>?_⟩;simp at A;subst A;exact hi a ha
    ·intro o K;rcases List.mem_append.1 K with K|K
     ·exact hs o K
     ·simp at K;subst K;exact vh
    ·intro o K;rcases List.mem_append.1 K with K|K
     ·have:=hi o K;omega
     ·simp at K;subst K;show next<next+1;omega
   ·exact⟨M.1,hs,fun o K=>by have:=hi o K;omega⟩
  ·rw[if_neg (fun e=>X e.2),if_neg X];refine⟨?_,by omega,by omega⟩
   by_cases oC:c.k=2
   ·rw[if_pos oC];obtain⟨k,o,hp,K⟩:=ref_id hr (.inl oC);have hpt:(plc l c.i).toNat=k:=by rw[hp];rfl
    simp only[hpt,K];have A:=h.good.left o (yO K);exact⟨(fO h.good K (qty:=o.left) (by omega) (by omega)).1,hit_side K h.side,hit_ids K h.ids⟩
   ·rw[if_neg oC]
    by_cases je:c.k=3
    ·rw[if_pos je];obtain⟨k,o,hp,K⟩:=ref_id hr (.inr je);have hpt:(plc l c.i).toNat=k:=by rw[hp];rfl
     simp only[hpt,K]
     have hq:1<=c.q/\c.q<=1000000/\c.q<o.left:=by
      rw[refR,if_neg X,if_neg oC,if_pos je] at hr;split at hr
      ·rw[redR] at hr;split at hr
       ·next A =>
        rw[hp] at hr;simp only[Int.toNat_natCast,K] at hr;split at hr
        ·cases hr
        ·split at hr
         ·cases hr
         ·have:1<=c.q/\c.q<=1000000:=by simpa[betB] using A
          omega
       ·cases hr
      ·cases hr
     have vK:∀x∈l.set k { o with left:=c.q },∃y∈l,x.id=y.id/\x.side=y.side/\(x.left=y.left\/x.left=c.q):=by
      intro x hx;rcases List.mem_or_eq_of_mem_set hx with D|rfl
      ·exact⟨x,D,rfl,rfl,.inl rfl⟩
      ·exact⟨o,yO K,rfl,rfl,.inr rfl⟩
     refine⟨⟨by simpa using h.good.len,?_,?_⟩,?_,?_⟩
     ·intro x hx;obtain⟨y,hy,_,_,h3⟩:=vK x hx;have:=h.good.left y hy;rcases h3 with h3|h3 <;> omega
     ·have kX:=h.good.rise;rw[ew,List.pairwise_iff_getElem] at kX |-;intro i j hi hj pY;have jd:i<l.length:=by simpa using hi
      have hj':j<l.length:=by simpa using hj
      have key:∀i (hi:i<(l.set k { o with left:=c.q }).length),((l.set k { o with left:=c.q })[i]).id=(l[i]'(by simpa using hi)).id:=by
       intro i hi;rw[List.getElem_set];split
       ·next e=>subst e;have:=yG.1 K;obtain⟨_,rfl⟩:=this;rfl
       ·rfl
      rw[key i hi,key j hj];exact kX i j jd hj' pY
     ·intro x hx;obtain⟨y,hy,_,E,_⟩:=vK x hx;rw[E];exact h.side y hy
     ·intro x hx;obtain⟨y,hy,E,_,_⟩:=vK x hx;rw[E];exact h.ids y hy
    ·rw[if_neg je];have hsub:∀x∈l.filter ndy,x∈l:=fun x hx=>(List.mem_filter.1 hx).1;exact⟨⟨yN (List.length_filter_le _ _) h.good.len,fun o K=>h.good.left o (hsub o K),List.Pairwise.filter _ h.good.rise⟩,fun o K=>h.side o (hsub o K),fun o K=>h.ids o (hsub o K)⟩
 ·rw[if_neg (fun e=>hr e.1),if_neg hr];exact⟨h,by omega,by omega⟩
def cntO (t:Tot)(o:Od):Tot:={ t with li:=wrap64 (t.li+1),le:=wrap64 (t.le+o.left) }
def wbT (t:Tot)(l:List Od):Tot:=l.foldl cntO t
theorem wb_step (t:Tot)(l:List Od){k:Nat}{o:Od}(h:l[k]? = some o):wbT t (l.take (k+1))=cntO (wbT t (l.take k)) o:=by
 unfold wbT;rw[List.take_add_one,h,List.foldl_append];rfl
theorem keepB {w W:World}{S:Nat}{cs:List Value}(h:W.rangeAt S 0 cs/\W.there S 0 8/\W.there (S+1+1) 0 8/\Below S w W/\S+1+1+1<=W.heap.size)(j:Nat)(hj:j<cs.length)(u:Value):(W.setCell (U S j) u).rangeAt S 0 (cs.set j u)/\(W.setCell (U S j) u).there S 0 8/\(W.setCell (U S j) u).there (S+1+1) 0 8/\Below S w (W.setCell (U S j) u)/\S+1+1+1<=(W.setCell (U S j) u).heap.size:=
 ⟨range_set h.1 hj,fK h.2.1,fK h.2.2.1,h.2.2.2.1.setCell (p:=(U S j)) ya _,by simp only[World.setCell,Array.size_modify];exact h.2.2.2.2⟩
theorem withBook_any (t:Tot)(next:Int)(v:Value)(l:List Od)(w:World)(hr:RdR Od.vs 6 w v l) :
  Calls Tryz.prog 43 #[.agg #[H t.gr,H t.ac,H t.rf,H t.tr,H t.vo,H t.no,H t.li,H t.le],.agg #[H next,v]] w fun r w'=>r=ym (.agg #[H (wbT t l).gr,H (wbT t l).ac,H (wbT t l).rf,H (wbT t l).tr,H (wbT t l).vo,H (wbT t l).no,H (wbT t l).li,H (wbT t l).le])/\yn w w':=by
 obtain⟨a,cap,rfl,xD,hc⟩:=hr
 have xp:∀(k:Nat) (c:Od),l[k]? = some c->∃b off,a=some (U b off)/\b<w.heap.size/\w.rangeAt b (off+k*6) c.vs:=by
  intro k c X;obtain⟨b,off,D,E,h3⟩:=hc (by intro h;rw[h] at X;simp at X);exact⟨b,off,D,E,h3 k c X⟩
 have HC:=Q xp;clear xp hc;have hsf:=sfl;have xI:=zh w (J #[H t.gr,H t.ac,H t.rf,H t.tr,H t.vo,H t.no,H t.li,H t.le] 43);have uc:((w.alloc (J #[H t.gr,H t.ac,H t.rf,H t.tr,H t.vo,H t.no,H t.li,H t.le] 43)).alloc (J #[H next,.slice a l.length cap] 41)).heap.size=w.heap.size+1+1:=by rw[zh,xI]
 have ja:(((w.alloc (J #[H t.gr,H t.ac,H t.rf,H t.tr,H t.vo,H t.no,H t.li,H t.le] 43)).alloc (J #[H next,.slice a l.length cap] 41)).alloc (J #[H 0,H 0,H 0,H 0,H 0,H 0,H 0,H 0] 43)).heap.size=w.heap.size+1+1+1:=by rw[zh,uc]
 have r1:=zo w [H t.gr,H t.ac,H t.rf,H t.tr,H t.vo,H t.no,H t.li,H t.le] 43;have t1:=zT w [H t.gr,H t.ac,H t.rf,H t.tr,H t.vo,H t.no,H t.li,H t.le] 43;have r2:=zo (w.alloc (J #[H t.gr,H t.ac,H t.rf,H t.tr,H t.vo,H t.no,H t.li,H t.le] 43)) [H next,.slice a l.length cap] 41;have t3:=zT ((w.alloc (J #[H t.gr,H t.ac,H t.rf,H t.tr,H t.vo,H t.no,H t.li,H t.le] 43)).alloc (J #[H next,.slice a l.length cap] 41)) [H 0,H 0,H 0,H 0,H 0,H 0,H 0,H 0] 43;rw[uc] at t3;rw[xI] at r2;have b1:=lT w (J #[H t.gr,H t.ac,H t.rf,H t.tr,H t.vo,H t.no,H t.li,H t.le] 43);have b2:Below (w.heap.size+1) (w.alloc (J #[H t.gr,H t.ac,H t.rf,H t.tr,H t.vo,H t.no,H t.li,H t.le] 43)) ((w.alloc (J #[H t.gr,H t.ac,H t.rf,H t.tr,H t.vo,H t.no,H t.li,H t.le] 43)).alloc (J #[H next,.slice a l.length cap] 41)):=(Below.refl _ _).alloc (by omega) _;have b3:Below (w.heap.size+1+1) ((w.alloc (J #[H t.gr,H t.ac,H t.rf,H t.tr,H t.vo,H t.no,H t.li,H t.le] 43)).alloc (J #[H next,.slice a l.length cap] 41)) (((w.alloc (J #[H t.gr,H t.ac,H t.rf,H t.tr,H t.vo,H t.no,H t.li,H t.le] 43)).alloc (J #[H next,.slice a l.length cap] 41)).alloc (J #[H 0,H 0,H 0,H 0,H 0,H 0,H 0,H 0] 43)):=(Below.refl _ _).alloc (by omega) _;have HX:Hid (_/\_/\_/\_/\_):=⟨zd (zd r1 b2 (by omega)) b3 (by omega),zl (zl t1 b2 (by omega)) b3 (by omega),t3,(b1.trans (b2.mono (by omega))).trans (b3.mono (by omega)),Nat.le_of_eq ja.symm⟩;have HBK:=Q (zd r2 b3 (by omega));clear xI uc ja r1 r2 t1 t3 b1 b2 b3;go_enter Tryz.func43,Tryz.ntmps43;refine lX fun ho xV=>?_;go_wp2_with fail;refine Z xV _ _ ?_;clear xV;generalize (((w.alloc (J #[H t.gr,H t.ac,H t.rf,H t.tr,H t.vo,H t.no,H t.li,H t.le] 43)).alloc (J #[H next,.slice a l.length cap] 41)).alloc (J #[H 0,H 0,H 0,H 0,H 0,H 0,H 0,H 0] 43))=hk at HX HBK |-;have HX:Hid ((hk).rangeAt w.heap.size 0 (wbT t (l.take 0)).vs/\(hk).there w.heap.size 0 8/\(hk).there (w.heap.size+1+1) 0 8/\yn w (hk)/\w.heap.size+1+1+1<=(hk).heap.size):=Z HX;have c0:hk.cell? (U (w.heap.size+1) 0)=some (H next):=Z HBK 0 _ rfl;have c1:hk.cell? (U (w.heap.size+1) 1)=some (.slice a l.length cap):=Z HBK 1 _ rfl;go_wp2_with fail;clear c0 c1;go_loopw [10] (fun iv wr=>∃(k:Nat),k<=l.length/\iv=H k/\Hid ((wr).rangeAt w.heap.size 0 (wbT t (l.take k)).vs/\(wr).there w.heap.size 0 8/\(wr).there (w.heap.size+1+1) 0 8/\yn w (wr)/\w.heap.size+1+1+1<=(wr).heap.size)) (fun iv _=>l.length-(intOf iv).toNat)
 case atStart=>exact⟨0,Nat.zero_le _,rfl,Z HX⟩
 case round =>
  obtain⟨k,X,rfl,vf⟩:=hrel
  by_cases xH:k<l.length
  ·obtain⟨e,hke⟩:∃e,l[k]? = some e:=⟨_,yH xH⟩;obtain⟨b,off,rfl,A,xm⟩:=Z HC k e hke;have vn:=Q (wb_step t l hke);have uq:(k:Int)<l.length:=by omega
   have hse:=(Z vf).2.2.2.2;obtain⟨g0,g1,g2,g3,g4,g5⟩:=zM (zd xm (Z vf).2.2.2.1 A);have kV:=lT wr (J (yw e.id e.side e.ticks e.left e.life e.tag).toArray 98);have HY:Hid (((wr.alloc (J (yw e.id e.side e.ticks e.left e.life e.tag).toArray 98))).rangeAt w.heap.size 0 (wbT t (l.take k)).vs/\((wr.alloc (J (yw e.id e.side e.ticks e.left e.life e.tag).toArray 98))).there w.heap.size 0 8/\((wr.alloc (J (yw e.id e.side e.ticks e.left e.life e.tag).toArray 98))).there (w.heap.size+1+1) 0 8/\yn w ((wr.alloc (J (yw e.id e.side e.ticks e.left e.life e.tag).toArray 98)))/\w.heap.size+1+1+1<=((wr.alloc (J (yw e.id e.side e.ticks e.left e.life e.tag).toArray 98))).heap.size):=⟨zd (Z vf).1 kV (by omega),zl (Z vf).2.1 kV (by omega),zl (Z vf).2.2.1 kV (by omega),(Z vf).2.2.2.1.trans (kV.mono (by omega)),yN hse kV.size⟩;generalize wbT t (l.take k)=T at vn HY;obtain⟨qH,qG,qJ,qK,qL,qI,uY,qD⟩:=T;have xy:w.heap.size≠wr.heap.size:=by omega
   have hne':wr.heap.size≠w.heap.size:=by omega
   have d6:(wr.alloc (J (yw e.id e.side e.ticks e.left e.life e.tag).toArray 98)).cell? (yq w 6)=some (H uY):=(Z HY).1 6 _ rfl;have p6:(wr.alloc (J (yw e.id e.side e.ticks e.left e.life e.tag).toArray 98)).frozen? (yq w 6)=false:=by have:=((Z HY).2.1 6 (by omega)).2;rwa[Nat.zero_add] at this
   have d7:(wr.alloc (J (yw e.id e.side e.ticks e.left e.life e.tag).toArray 98)).cell? (yq w 7)=some (H qD):=(Z HY).1 7 _ rfl;have p7:(wr.alloc (J (yw e.id e.side e.ticks e.left e.life e.tag).toArray 98)).frozen? (yq w 7)=false:=by have:=((Z HY).2.1 7 (by omega)).2;rwa[Nat.zero_add] at this
   clear hke xm A kV;have HN:Hid (wbT t (l.take (k+1))=⟨qH,qG,qJ,qK,qL,qI,wrap64 (uY+1),wrap64 (qD+e.left)⟩):=Z vn;clear vn;go_wp2_with fail;go_roundw
   case rel=>exact⟨k+1,by omega,by go_num,by rw[Z HN];exact keepB (keepB (Z HY) 6 (by simp[Tot.vs]) _) 7 (by simp[Tot.vs]) _⟩
   case measure=>simp[intOf];omega
  ·have uq:¬ (k:Int)<l.length:=by omega
   rw[yZ (by omega)] at vf;generalize hT:wbT t l=T at vf;have ps:=Q hT;have HY:=Q (Z vf);clear hT;obtain⟨qH,qG,qJ,qK,qL,qI,uY,qD⟩:=T;have c0:wr.cell? (yq w 0)=some (H qH):=(Z HY).1 0 _ rfl;obtain⟨y0,z0,q0⟩:=zi (Z HY).2.2.1 (j:=0) (by omega);have c1:wr.cell? (yq w 1)=some (H qG):=(Z HY).1 1 _ rfl;obtain⟨y1,z1,q1⟩:=zi (Z HY).2.2.1 (j:=1) (by omega);have c2:wr.cell? (yq w 2)=some (H qJ):=(Z HY).1 2 _ rfl;obtain⟨y2,z2,q2⟩:=zi (Z HY).2.2.1 (j:=2) (by omega);have c3:wr.cell? (yq w 3)=some (H qK):=(Z HY).1 3 _ rfl;obtain⟨y3,z3,q3⟩:=zi (Z HY).2.2.1 (j:=3) (by omega);have c4:wr.cell? (yq w 4)=some (H qL):=(Z HY).1 4 _ rfl;obtain⟨y4,z4,q4⟩:=zi (Z HY).2.2.1 (j:=4) (by omega);have c5:wr.cell? (yq w 5)=some (H qI):=(Z HY).1 5 _ rfl;obtain⟨y5,z5,q5⟩:=zi (Z HY).2.2.1 (j:=5) (by omega);have c6:wr.cell? (yq w 6)=some (H uY):=(Z HY).1 6 _ rfl;obtain⟨y6,z6,q6⟩:=zi (Z HY).2.2.1 (j:=6) (by omega);have c7:wr.cell? (yq w 7)=some (H qD):=(Z HY).1 7 _ rfl;obtain⟨y7,z7,q7⟩:=zi (Z HY).2.2.1 (j:=7) (by omega);have ki:=Q (yX wr (w.heap.size+1+1) 0 [H qH,H qG,H qJ,H qK,H qL,H qI,H uY,H qD] (fun j hj=>(Z HY).2.2.1 j hj));have cM:=Q (zg (w.heap.size+1+1) (by omega) [H qH,H qG,H qJ,H qK,H qL,H qI,H uY,H qD] 0 wr (Z HY).2.2.2.1);clear vf;go_wp2_with fail;change bodyPost _ _ _ _ _ (wr.setCells (w.heap.size+1+1) 0 [H qH,H qG,H qJ,H qK,H qL,H qI,H uY,H qD]);generalize wr.setCells (w.heap.size+1+1) 0 [H qH,H qG,H qJ,H qK,H qL,H qI,H uY,H qD]=WE at ki cM |-;obtain⟨d0,d1,d2,d3,d4,d5,d6,d7⟩:=yD (Z ki)
   try simp only[Exit.inBlock,Exit.then]
   refine bodyPost_ret (by simp[results,Tryz.results43,go_sem,d0,d1,d2,d3,d4,d5,d6,d7];try rfl) rfl ?_;exact⟨by rw[Z ps],Z cM⟩
structure RunSt where
 n:Int
 l:List Od
 g:List (List Ev)
 t:Tot
def tot0:Tot:=⟨0,0,0,0,0,0,0,0⟩
def rstep (s:RunSt)(c:Cm):RunSt:=⟨stN s.n s.l c,stL s.n s.l c,s.g ++ [stE s.n s.l c],wgT s.t (stE s.n s.l c)⟩
def runS (cs:List Cm):RunSt:=cs.foldl rstep ⟨1,[],[],tot0⟩
theorem run_step (cs:List Cm){k:Nat}{c:Cm}(h:cs[k]? = some c):runS (cs.take (k+1))=rstep (runS (cs.take k)) c:=by
 unfold runS;rw[List.take_add_one,h,List.foldl_append];rfl
theorem run_take (cs:List Cm)(h:cs.length<=200):∀k,k<=cs.length->Inv (runS (cs.take k)).n (runS (cs.take k)).l/\1<=(runS (cs.take k)).n/\(runS (cs.take k)).n<=1+k/\(runS (cs.take k)).g.length=k:=by
 intro k
 induction k with
 | zero=>intro _;exact⟨inv_start,by simp[runS],by simp[runS],by simp[runS]⟩
 | succ k ih =>
  intro X;obtain⟨D,E,h3,h4⟩:=ih (by omega);obtain⟨c,hc⟩:∃c,cs[k]? = some c:=⟨_,yH (by omega)⟩;rw[run_step cs hc];generalize runS (cs.take k)=s at D E h3 h4 |-;obtain⟨i1,i2,i3⟩:=inv_step c D (by omega) (by omega);refine⟨i1,?_,?_,?_⟩
  ·show 1<=stN s.n s.l c;omega
  ·show stN s.n s.l c<=1+((k+1:Nat):Int);omega
  ·show(s.g ++ [stE s.n s.l c]).length=k+1;simp[h4]
theorem gR (cs:List Cm)(h:cs.length<=200):Inv (runS cs).n (runS cs).l/\1<=(runS cs).n/\(runS cs).n<=1+cs.length/\(runS cs).g.length=cs.length:=by
 have:=run_take cs h cs.length ya;rwa[yZ ya] at this


end Go.Proofs.YtbghmldggahjiaaGreatDoor
