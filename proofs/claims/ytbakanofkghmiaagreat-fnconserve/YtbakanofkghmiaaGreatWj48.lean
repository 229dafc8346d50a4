/-
  What the types of orders promise, of the groups that a script leads to. No function walked.
-/
import Derived.Test.YtbakanofkghmiaaGreatWj33
set_option linter.unusedVariables false
set_option maxHeartbeats 6400000
set_option maxRecDepth 100000
namespace Go.Proofs.YtbakanofkghmiaaGreat
open Go.RowKit
theorem stE_lenT {next:Int} {l:List Od} {c:Cm} (hg:GoodL l):(stE next l c).length ≤ 100:=by
 have hl:=hg.len
 rw [stE]
 split
 ·split
  ·have G:=dy (c:=c) (id:=next) 21 l c.q []
   rw [accE]
   simp only [yP,List.length_cons,List.length_nil] at G ⊢
   split <;> simp <;> omega
  ·split
   ·split <;> simp
   ·split
    ·simp
    ·have G:(l.filter dyB).length ≤ 20:=yN (List.length_filter_le _ _) hl
     simp only [List.length_cons,List.length_map]; omega
 ·simp
theorem run_lenT (cs:List Cm):∀ k,k ≤ cs.length→(runS (cs.take k)).g.length = k:=by
 intro k
 induction k with
 | zero=>intro _; simp [runS]
 | succ k ih =>
  intro hk
  obtain ⟨c,hc⟩:∃ c,cs[k]? = some c:=⟨_,yH (by omega)⟩
  rw [cM cs hc]
  show ((runS (cs.take k)).g ++ [_]).length = k + 1
  rw [yP,ih (by omega)]; rfl
theorem run_group (cs:List Cm):∀ k,k ≤ cs.length→∀ i,i < k→∃ c,cs[i]? = some c∧(runS (cs.take k)).g[i]? = some (stE (runS (cs.take i)).n (runS (cs.take i)).l c):=by
 intro k
 induction k with
 | zero=>intro _ i hi; omega
 | succ k ih =>
  intro hk i hi
  obtain ⟨c,hc⟩:∃ c,cs[k]? = some c:=⟨_,yH (by omega)⟩
  have hl:=run_lenT cs k (by omega)
  rw [cM cs hc]
  by_cases h:i < k
  ·obtain ⟨d,G,E⟩:=ih (by omega) i h
   refine ⟨d,G,?_⟩
   show ((runS (cs.take k)).g ++ [_])[i]? = _
   rw [List.getElem?_append_left (by omega)]
   exact E
  ·obtain rfl:i = k:=by omega
   refine ⟨c,hc,?_⟩
   show ((runS (cs.take i)).g ++ [_])[i]? = _
   rw [List.getElem?_append_right (by omega),hl]
   simp
def lk:List Od→Int→Int
 | [],_=>0
 | o :: l,i=>(if o.id = i then o.left else 0) + lk l i
theorem lk_app (i:Int):∀ a b:List Od,lk (a ++ b) i = lk a i + lk b i
 | [],b=>by simp [lk]
 | o :: a,b=>by rw [List.cons_append,lk,lk,lk_app i a b]; omega
theorem lk_none {i:Int}:∀ {l:List Od},(∀ o ∈ l,o.id ≠ i)→lk l i = 0
 | [],_=>rfl
 | o :: l,h=>by rw [lk,if_neg (h o (by simp)),lk_none fun x hx=>h x (by simp [hx])]; rfl
theorem lk_part (p:Od→Bool) (i:Int):∀ l:List Od,lk l i = lk (l.filter p) i + lk (l.filter fun o=>!p o) i
 | []=>rfl
 | o :: l=>by
  have:=lk_part p i l
  cases hp:p o
  ·rw [List.filter_cons_of_neg (by simp [hp]),List.filter_cons_of_pos (by simp [hp]),lk,lk]; omega
  ·rw [List.filter_cons_of_pos hp,List.filter_cons_of_neg (by simp [hp]),lk,lk]; omega
theorem at_split {l:List Od} {k:Nat} {o:Od} (hk:l[k]? = some o):l = l.take k ++ o :: l.drop (k + 1):=by
 have xJ:=(yG.1 hk).1
 have e:=List.take_append_drop k l
 rw [xc xJ,(yG.1 hk).2] at e
 exact e.symm
theorem lk_split {l:List Od} {k:Nat} {o:Od} (hk:l[k]? = some o) (i:Int):lk l i = lk (l.take k) i + (if o.id = i then o.left else 0) + lk (l.drop (k + 1)) i:=by
 have e:lk l i = lk (l.take k ++ o :: l.drop (k + 1)) i:=by rw [← at_split hk]
 rw [e,lk_app,lk]; omega
theorem lk_set {l:List Od} {k:Nat} {o o':Od} (hk:l[k]? = some o) (hi:o'.id = o.id) (i:Int):lk (l.set k o') i = lk l i - (if o.id = i then o.left else 0) + (if o.id = i then o'.left else 0):=by
 have xJ:=(yG.1 hk).1
 rw [lk_split hk,List.set_eq_take_append_cons_drop,if_pos xJ,lk_app,lk,hi]; omega
theorem lk_hit {l:List Od} {k:Nat} {o:Od} (hk:l[k]? = some o) (q i:Int):lk (aN l k o q) i = lk l i - (if o.id = i then q else 0):=by
 rw [aN]
 split
 ·next h=>rw [lk_split hk,lk_app,h]; omega
 ·rw [lk_set (o':={ o with left:=o.left - q }) hk rfl]
  show lk l i - (if o.id = i then o.left else 0) + (if o.id = i then o.left - q else 0) = _
  split <;> omega
theorem lk_at {l:List Od} (hr:aV l) {k:Nat} {o:Od} (hk:l[k]? = some o):lk l o.id = o.left:=by
 rw [lk_split hk,if_pos rfl,lk_none,lk_none]
 ·omega
 ·intro x hx he
  obtain ⟨i,hi⟩:=List.getElem?_of_mem hx
  rw [List.getElem?_drop] at hi
  have:=rise_id hr hi hk he
  omega
 ·intro x hx he
  obtain ⟨i,hi⟩:=List.getElem?_of_mem hx
  rw [List.getElem?_take] at hi
  split at hi
  ·have:=rise_id hr hi hk he
   omega
  ·cases hi
theorem lk_bd {l:List Od} (h:GoodL l) (i:Int):0 ≤ lk l i∧lk l i ≤ 1000000:=by
 by_cases he:∃ o ∈ l,o.id = i
 ·obtain ⟨o,Z,rfl⟩:=he
  obtain ⟨k,hk⟩:=List.getElem?_of_mem Z
  have:=h.left o Z
  rw [lk_at h.rise hk]; omega
 ·rw [lk_none fun o Z e=>he ⟨o,Z,e⟩]; omega
theorem lk_nneg {i:Int}:∀ {l:List Od},(∀ o ∈ l,0 < o.left)→0 ≤ lk l i
 | [],_=>Int.le_refl _
 | o :: l,h=>by
  have G:=h o (by simp)
  have E:=lk_nneg (i:=i) (l:=l) fun x hx=>h x (by simp [hx])
  rw [lk]; split <;> omega
def upI (xm:Int→Int) (i v:Int):Int→Int:=fun j=>if j = i then v else xm j
def BdA (a:Int) (xm:Int→Int):Prop:=(0 ≤ a∧a ≤ 1000000)∧∀ i,0 ≤ xm i∧xm i ≤ 1000000
def Con (N:Int):List Ev→Int→(Int→Int)→(Int→Int)→Prop
 | [],a,xm,A'=>a = 0∧xm = A'∧BdA a xm
 | e :: es,a,xm,A'=>BdA a xm∧0 ≤ e.qty∧e.qty ≤ 1000000 ∧
  ((e.kind = 1∧Con N es e.cmd.q xm A')
  ∨ (e.kind = 3∧0 ≤ e.other∧e.other ≤ N∧Con N es (a - e.qty) (upI xm e.other (xm e.other - e.qty)) A')
  ∨ (e.kind = 4∧0 ≤ e.id∧e.id ≤ N∧Con N es (a - e.qty) (upI xm e.id e.qty) A')
  ∨ (e.kind = 5∧Con N es (a - e.qty) xm A')
  ∨ ((e.kind = 6 ∨ e.kind = 9)∧0 ≤ e.id∧e.id ≤ N∧Con N es a (upI xm e.id (xm e.id - e.qty)) A')
  ∨ (e.kind = 7∧0 ≤ e.id∧e.id ≤ N∧e.qty < xm e.id∧Con N es a (upI xm e.id e.qty) A')
  ∨ ((e.kind = 2 ∨ e.kind = 8)∧Con N es a xm A'))
theorem bd_lk {l:List Od} (h:GoodL l) {a:Int} (h0:0 ≤ a) (G:a ≤ 1000000):BdA a (lk l):=⟨⟨h0,G⟩,lk_bd h⟩
theorem up_hit {l:List Od} {k:Nat} {o:Od} (hk:l[k]? = some o) (q:Int):upI (lk l) o.id (lk l o.id - q) = lk (aN l k o q):=by
 funext i
 rw [lk_hit hk,upI]
 by_cases h:i = o.id
 ·rw [if_pos h,if_pos h.symm,h]
 ·rw [if_neg h,if_neg (fun e=>h e.symm)]; omega
theorem con_mat {c:Cm} {id N:Int}:∀ (n:Nat) (l:List Od) (left:Int) (ts:List Ev),GoodL l→0 ≤ left→left ≤ 1000000→(∀ o ∈ l,0 < o.id∧o.id ≤ N) →
  ∃ us,(matL c id n l left ts).2.2 = ts ++ us∧∀ tl A',Con N tl (matL c id n l left ts).2.1 (lk (matL c id n l left ts).1) A'→Con N (us ++ tl) left (lk l) A'
 | 0,l,left,ts,h,h0,G,hi=>⟨[],by simp [matL],fun tl A' h=>h⟩
 | n + 1,l,left,ts,h,h0,G,hi=>by
  rw [matL]
  by_cases hl:0 < left
  ·rw [if_pos hl]
   cases hf:aU l (othS c.s) with
   | none=>exact ⟨[],by simp,fun tl A' h=>h⟩
   | some o =>
    simp only
    by_cases hm:aZ c o = true
    ·rw [if_pos hm]
     obtain ⟨uy,_⟩:=dd hf
     obtain ⟨k,hk⟩:=List.getElem?_of_mem uy
     have Z:=h.left o uy
     rw [plc_at h.rise hk,Int.toNat_natCast]
     have hids:∀ x ∈ aN l k o (min left o.left),0 < x.id∧x.id ≤ N:=fun x hx=>by
      have E:=hit_ids (b:=N + 1) hk (fun y hy=>by have:=hi y hy; omega) x hx
      have h3:0 < x.id:=by
       rw [aN] at hx
       split at hx
       ·rcases List.mem_append.1 hx with hx | hx
        ·exact (hi x (List.mem_of_mem_take hx)).1
        ·exact (hi x (List.mem_of_mem_drop hx)).1
       ·rcases List.mem_or_eq_of_mem_set hx with hx | rfl
        ·exact (hi x hx).1
        ·exact (hi o uy).1
      omega
     obtain ⟨us,e1,e2⟩:=con_mat (c:=c) (id:=id) (N:=N) n (aN l k o (min left o.left)) (left - min left o.left) (ts ++ [trE id o.id (min left o.left) o.ticks]) (cJ h hk (by omega) (by omega)).1 (by omega) (by omega) hids
     refine ⟨trE id o.id (min left o.left) o.ticks :: us,by rw [e1]; simp,fun tl A' ht=>?_⟩
     have h4:=e2 tl A' ht
     rw [List.cons_append]
     refine ⟨bd_lk h h0 G,by show 0 ≤ min left o.left; omega,by show min left o.left ≤ 1000000; omega,.inr (.inl ⟨rfl,?_,?_,?_⟩)⟩
     ·show 0 ≤ o.id; have:=hi o uy; omega
     ·exact (hi o uy).2
     ·show Con N (us ++ tl) (left - min left o.left) (upI (lk l) o.id (lk l o.id - min left o.left)) A'
      rw [up_hit hk]; exact h4
    ·rw [if_neg hm]; exact ⟨[],by simp,fun tl A' h=>h⟩
  ·rw [if_neg hl]; exact ⟨[],by simp,fun tl A' h=>h⟩
theorem con_day {N:Int}:∀ (eG:List Od) (xm:Int→Int),(∀ i,0 ≤ xm i - lk eG i∧xm i ≤ 1000000)→(∀ o ∈ eG,0 < o.left∧o.left ≤ 1000000∧0 < o.id∧o.id ≤ N)→Con N (eG.map expE) 0 xm (fun i=>xm i - lk eG i)
 | [],xm,h,_=>by
  refine ⟨rfl,?_,⟨by decide,by decide⟩,fun i=>?_⟩
  ·funext i; rw [lk]; omega
  ·have:=h i; rw [lk] at this; omega
 | o :: eG,xm,h,hd=>by
  have Z:=hd o (by simp)
  have hp:∀ i,0 ≤ lk eG i:=fun i=>lk_nneg fun x hx=>(hd x (by simp [hx])).1
  have e:∀ i,lk (o :: eG) i = (if o.id = i then o.left else 0) + lk eG i:=fun i=>rfl
  have e2:∀ i,upI xm o.id (xm o.id - o.left) i = xm i - (if o.id = i then o.left else 0):=fun i=>by
   rw [upI]
   by_cases hi:i = o.id
   ·rw [if_pos hi,if_pos hi.symm,hi]
   ·rw [if_neg hi,if_neg (fun e=>hi e.symm)]; omega
  have ih:=con_day (N:=N) eG (upI xm o.id (xm o.id - o.left)) (fun i=>by
   have G:=h i
   rw [e] at G
   rw [e2]
   split <;> split at G <;> omega) (fun x hx=>hd x (by simp [hx]))
  rw [List.map_cons]
  refine ⟨⟨⟨by decide,by decide⟩,fun i=>?_⟩,by show 0 ≤ o.left; omega,Z.2.1,.inr (.inr (.inr (.inr (.inl ⟨.inr rfl,by show 0 ≤ o.id; omega,Z.2.2.2,?_⟩))))⟩
  ·have G:=h i
   have E:=hp i
   rw [e] at G
   split at G <;> omega
  ·show Con N (eG.map expE) 0 (upI xm o.id (xm o.id - o.left)) _
   have e3:(fun i=>xm i - lk (o :: eG) i) = fun i=>upI xm o.id (xm o.id - o.left) i - lk eG i:=by
    funext i; rw [e,e2]; omega
   rw [e3]; exact ih
theorem plc_id {l:List Od} {id:Int} {k:Nat} {o:Od} (hp:plc l id = (k:Nat)) (Z:l[k]? = some o):o.id = id:=by
 rcases plcF_spec id l 0 with ⟨G,_⟩ | ⟨i,o',G,E,h3,_⟩
 ·rw [plc,G] at hp; omega
 ·rw [plc,G] at hp
  obtain rfl:k = i:=by omega
  rw [Z] at E; cases E; exact h3
theorem okB_ids {n:Int} {l:List Od} (h:OkB n l):∀ o ∈ l,0 < o.id∧o.id < n:=fun o Z=>⟨h.id0 o Z,h.ids o Z⟩
theorem con_all {n N:Int} {l:List Od} {c:Cm} (h:OkB n l) (hN:stN n l c ≤ N) (hn:n ≤ N):Con N (stE n l c) 0 (lk l) (lk (stL n l c)):=by
 have hg:=okB_good h
 have hids:=okB_ids h
 have pO:=bd_lk hg (a:=0) (by decide) (by decide)
 rw [stE,stL]
 rw [stN] at hN
 by_cases h0:refR n l c = 0
 ·rw [if_pos h0,if_pos h0]
  by_cases hk:c.k = 1
  ·rw [if_pos ⟨h0,hk⟩] at hN
   rw [if_pos hk,if_pos hk]
   have hq:=cK h0 hk
   obtain ⟨us,e1,e2⟩:=con_mat (c:=c) (id:=n) (N:=N) 21 l c.q [] hg (by omega) hq.2 (fun o Z=>by have:=hids o Z; omega)
   obtain ⟨g1,g2,g3⟩:=cz (c:=c) (id:=n) 21 l c.q [] hg (by omega) hq.2
   have hi:=matL_ids (c:=c) (id:=n) (b:=n) 21 l c.q [] hg.rise hg (by omega) hq.2 h.ids
   generalize matL c n 21 l c.q [] = hb at e1 e2 g1 g2 g3 hi ⊢
   rw [accE,accL,e1,List.nil_append,List.cons_append]
   refine ⟨pO,by show (0:Int) ≤ 0; decide,by show (0:Int) ≤ 1000000; decide,.inl ⟨rfl,e2 _ _ ?_⟩⟩
   have hbF:=bd_lk g1 g2 g3
   have hz:BdA (hb.2.1 - hb.2.1) (lk hb.1):=bd_lk g1 (by omega) (by omega)
   by_cases hl:0 < hb.2.1
   ·rw [if_pos hl]
    by_cases hr:aO c.t = true
    ·rw [if_pos (show 0 < hb.2.1∧aO c.t = true from ⟨hl,hr⟩),if_pos hr]
     have hfree:lk hb.1 n = 0:=lk_none fun o Z e=>by have:=hi o Z; omega
     have eA:upI (lk hb.1) n hb.2.1 = lk (hb.1 ++ [⟨n,c.s,tk c.p,hb.2.1,c.l,c.g⟩]):=by
      funext i
      rw [lk_app,upI]
      show _ = lk hb.1 i + ((if n = i then hb.2.1 else 0) + 0)
      by_cases ub:i = n
      ·rw [if_pos ub,if_pos ub.symm,ub,hfree]; omega
      ·rw [if_neg ub,if_neg (fun e=>ub e.symm)]; omega
     refine ⟨hbF,g2,g3,.inr (.inr (.inl ⟨rfl,by show 0 ≤ n; have:=h.n1; omega,by show n ≤ N; omega,?_⟩))⟩
     show hb.2.1 - hb.2.1 = 0∧upI (lk hb.1) n hb.2.1 = _∧BdA (hb.2.1 - hb.2.1) (upI (lk hb.1) n hb.2.1)
     refine ⟨by omega,eA,⟨by omega,by omega⟩,fun i=>?_⟩
     rw [upI]
     split
     ·omega
     ·exact lk_bd g1 i
    ·rw [if_neg (fun (x:0 < hb.2.1∧aO c.t = true)=>hr x.2),if_neg hr]
     refine ⟨hbF,g2,g3,.inr (.inr (.inr (.inl ⟨rfl,?_⟩)))⟩
     exact ⟨by show hb.2.1 - hb.2.1 = 0; omega,rfl,hz⟩
   ·rw [if_neg hl,if_neg (fun (x:0 < hb.2.1∧aO c.t = true)=>hl x.1)]
    have:hb.2.1 = 0:=by omega
    exact ⟨this,rfl,hbF⟩
  ·rw [if_neg (fun x=>hk x.2)] at hN
   rw [if_neg hk,if_neg hk]
   by_cases E:c.k = 2
   ·rw [if_pos E,if_pos E]
    have vl:idR l c.i = 0:=by
     rw [refR,if_neg hk,if_pos E] at h0
     split at h0
     ·exact h0
     ·cases h0
    rcases de l c.i with hp | ⟨k,o,hp,Z⟩
    ·rw [idR,if_pos (by omega)] at vl; cases vl
    ·rw [hp,Int.toNat_natCast,Z]
     have uy:=yO Z
     have hoi:o.id = c.i:=plc_id hp Z
     have hL:=hg.left o uy
     have hI:=hids o uy
     simp only
     refine ⟨pO,by show 0 ≤ o.left; omega,hL.2,.inr (.inr (.inr (.inr (.inl ⟨.inl rfl,by show 0 ≤ c.i; omega,by show c.i ≤ N; omega,?_⟩))))⟩
     show (0:Int) = 0∧upI (lk l) c.i (lk l c.i - o.left) = _∧BdA 0 (upI (lk l) c.i (lk l c.i - o.left))
     rw [← hoi,up_hit Z]
     exact ⟨rfl,rfl,bd_lk (cJ hg Z (by omega) (by omega)).1 (by decide) (by decide)⟩
   ·rw [if_neg E,if_neg E]
    by_cases h3:c.k = 3
    ·rw [if_pos h3,if_pos h3]
     have vl:redR l c.i c.q = 0:=by
      rw [refR,if_neg hk,if_neg E,if_pos h3] at h0
      split at h0
      ·exact h0
      ·cases h0
     rw [redR] at vl
     split at vl
     ·next hq =>
      have hq':1 ≤ c.q∧c.q ≤ 1000000:=by simpa [betB] using hq
      rcases de l c.i with hp | ⟨k,o,hp,Z⟩
      ·rw [if_pos (by omega)] at vl; cases vl
      ·rw [if_neg (by omega),hp,Int.toNat_natCast,Z] at vl
       simp only at vl
       split at vl
       ·cases vl
       ·next xJ =>
        rw [hp,Int.toNat_natCast,Z]
        have uy:=yO Z
        have hoi:o.id = c.i:=plc_id hp Z
        have hI:=hids o uy
        have hat:=lk_at hg.rise Z
        have eA:upI (lk l) c.i c.q = lk (l.set k { o with left:=c.q }):=by
         funext i
         rw [lk_set (o':={ o with left:=c.q }) Z rfl,upI]
         show _ = lk l i - (if o.id = i then o.left else 0) + (if o.id = i then c.q else 0)
         by_cases ub:i = c.i
         ·rw [if_pos ub,if_pos (by omega),if_pos (by omega),ub,← hoi,hat]; omega
         ·rw [if_neg ub,if_neg (by omega),if_neg (by omega)]; omega
        refine ⟨pO,by show 0 ≤ c.q; omega,hq'.2,.inr (.inr (.inr (.inr (.inr (.inl ⟨rfl,by show 0 ≤ c.i; omega,by show c.i ≤ N; omega,?_,?_⟩)))))⟩
        ·show c.q < lk l c.i
         rw [← hoi,hat]; omega
        ·show (0:Int) = 0∧upI (lk l) c.i c.q = _∧BdA 0 (upI (lk l) c.i c.q)
         refine ⟨rfl,eA,⟨by decide,by decide⟩,fun i=>?_⟩
         rw [upI]
         split
         ·omega
         ·exact lk_bd hg i
     ·cases vl
    ·rw [if_neg h3,if_neg h3]
     refine ⟨pO,by show (0:Int) ≤ ((l.filter dyB).length:Nat); omega,?_,.inr (.inr (.inr (.inr (.inr (.inr ⟨.inr rfl,?_⟩)))))⟩
     ·show (((l.filter dyB).length:Nat):Int) ≤ 1000000
      have:=List.length_filter_le dyB l
      have:=hg.len
      omega
     ·have hpart:∀ i,lk l i = lk (l.filter dyB) i + lk (l.filter ndy) i:=fun i=>lk_part dyB i l
      have:=con_day (N:=N) (l.filter dyB) (lk l) (fun i=>by
       have G:=lk_bd hg i
       have E:=lk_nneg (i:=i) (l:=l.filter ndy) fun x hx=>(hg.left x (List.mem_filter.1 hx).1).1
       have h3:=hpart i
       omega) (fun o Z=>by
       have hm:=(List.mem_filter.1 Z).1
       have G:=hg.left o hm
       have E:=hids o hm
       omega)
      have e3:(fun i=>lk l i - lk (l.filter dyB) i) = lk (l.filter ndy):=by
       funext i; have:=hpart i; omega
      rw [e3] at this
      exact this
 ·rw [if_neg h0,if_neg h0]
  exact ⟨pO,by show (0:Int) ≤ 0; decide,by show (0:Int) ≤ 1000000; decide,.inr (.inr (.inr (.inr (.inr (.inr ⟨.inl rfl,rfl,rfl,pO⟩)))))⟩
theorem run_mono (cs:List Cm):∀ k j,k + j ≤ cs.length→(runS (cs.take k)).n ≤ (runS (cs.take (k + j))).n:=by
 intro k j
 induction j with
 | zero=>intro _; exact Int.le_refl _
 | succ j ih =>
  intro h
  obtain ⟨c,hc⟩:∃ c,cs[k + j]? = some c:=⟨_,yH (by omega)⟩
  have e:runS (cs.take (k + (j + 1))) = rstep (runS (cs.take (k + j))) c:=cM cs hc
  have G:=ih (by omega)
  rw [e]
  have E:(runS (cs.take (k + j))).n ≤ stN (runS (cs.take (k + j))).n (runS (cs.take (k + j))).l c:=by rw [stN]; split <;> omega
  exact Int.le_trans G E
structure Kept (hb:RunSt) (tg:Nat→Int→Int):Prop where
 z:tg 0 = fun _=>0
 e:tg hb.g.length = lk hb.l
 g:∀ k es,hb.g[k]? = some es→es.length ≤ 100∧Con hb.n es 0 (tg k) (tg (k + 1))
theorem con_run (cs:List Cm) (h:cs.length ≤ 200) (hp:∀ c ∈ cs,PrW c.p):∃ tg,Kept (rsF cs) tg∧OkB (rsF cs).n (rsF cs).l∧(rsF cs).g.length = cs.length:=by
 have hr:(rsF cs).g = (runS cs).g∧(rsF cs).l = (runS cs).l∧(rsF cs).n = (runS cs).n:=by rw [rsF,if_pos h]; exact ⟨rfl,rfl,rfl⟩
 obtain ⟨r1,r2,r3⟩:=hr
 have ht:cs.take cs.length = cs:=yZ (Nat.le_refl _)
 have xE:(runS cs).g.length = cs.length:=(run_inv cs h).2.2.2
 have vG:=okB_run cs hp cs.length (Nat.le_refl _)
 rw [ht] at vG
 refine ⟨fun k=>lk (runS (cs.take k)).l,⟨?_,?_,?_⟩,by rw [r2,r3]; exact vG,by rw [r1]; exact xE⟩
 ·funext i; rfl
 ·show lk (runS (cs.take (rsF cs).g.length)).l = lk (rsF cs).l
  rw [r1,xE,ht,r2]
 ·intro k es vh
  rw [r1] at vh
  have hk:k < cs.length:=by rw [← xE]; exact (yG.1 vh).1
  obtain ⟨c,G,E⟩:=run_group cs cs.length (Nat.le_refl _) k hk
  rw [ht,vh] at E
  obtain rfl:=Option.some.inj E
  have Z:=okB_run cs hp k (by omega)
  refine ⟨stE_lenT (okB_good Z),?_⟩
  have e:runS (cs.take (k + 1)) = rstep (runS (cs.take k)) c:=cM cs G
  have m1:=run_mono cs k (cs.length - k) (by omega)
  have m2:=run_mono cs (k + 1) (cs.length - (k + 1)) (by omega)
  rw [show k + (cs.length - k) = cs.length by omega,ht] at m1
  rw [show k + 1 + (cs.length - (k + 1)) = cs.length by omega,ht,e] at m2
  rw [r3]
  show Con (runS cs).n _ 0 (lk (runS (cs.take k)).l) (lk (runS (cs.take (k + 1))).l)
  rw [e]
  exact con_all Z m2 m1
theorem rise_drop {l:List Od} (h:aV l) (k:Nat):aV (l.drop k):=List.Pairwise.sublist (List.drop_sublist k l) h
def tbl (m:Nat) (xm:Int→Int):List Value:=(List.range m).map fun i=>.int .i64 (xm (i:Nat))
theorem dm (m:Nat) (xm:Int→Int):(tbl m xm).length = m:=by simp [tbl]
theorem tbl_at {m:Nat} (xm:Int→Int) {k:Nat} (h:k < m):(tbl m xm)[k]? = some (.int .i64 (xm (k:Nat))):=by
 rw [tbl,List.getElem?_map,List.getElem?_range h]; rfl
theorem tbl_set {m:Nat} (xm:Int→Int) {k:Nat} (v:Int) (h:k < m):(tbl m xm).set k (.int .i64 v) = tbl m (upI xm k v):=by
 refine List.ext_getElem? fun i=>?_
 by_cases hi:i < m
 ·rw [tbl_at _ hi,upI]
  by_cases e:k = i
  ·subst e
   rw [List.getElem?_set_self (by rw [dm]; exact h),if_pos rfl]
  ·rw [yW e,tbl_at _ hi,if_neg (by omega)]
 ·rw [List.getElem?_eq_none (by rw [List.length_set,dm]; omega),List.getElem?_eq_none (by rw [dm]; omega)]
structure TbI (b m:Nat) (w:World) (xm:Int→Int) (W:World):Prop where
 x:Bx W b (tbl m xm)
 s:b < W.heap.size
 b:Below b w W
theorem tb_at {b m:Nat} {w W:World} {xm:Int→Int} (h:TbI b m w xm W) {k:Int} (h0:0 ≤ k) (G:k < m):W.cell? ⟨b,k.toNat,none⟩ = some (.int .i64 (xm k))∧W.frozen? ⟨b,k.toNat,none⟩ = false:=by
 obtain ⟨n,rfl⟩:=Int.eq_ofNat_of_zero_le h0
 have hn:n < m:=by omega
 exact ⟨zJ h.x n (tbl_at xm hn),bx_free h.x n (by rw [dm]; exact hn)⟩
theorem cw {b m:Nat} {w W:World} {xm:Int→Int} (h:TbI b m w xm W) {k:Int} (h0:0 ≤ k) (G:k < m) (v:Int):TbI b m w (upI xm k v) (W.setCell ⟨b,k.toNat,none⟩ (.int .i64 v)):=by
 obtain ⟨n,rfl⟩:=Int.eq_ofNat_of_zero_le h0
 have hn:n < m:=by omega
 have:=bx_set (u:=.int .i64 v) h.x (j:=n) (by rw [dm]; exact hn)
 rw [tbl_set xm v hn] at this
 exact ⟨this,by rw [World.size_setCell]; exact h.s,h.b.setCell (Nat.le_refl b) _⟩
theorem bi {b m:Nat} {w W:World} {xm:Int→Int} (h:TbI b m w xm W) (o:Obj):TbI b m w xm (W.alloc o) :=
 ⟨bM h.x ((Below.refl W.heap.size W).alloc (Nat.le_refl _) o) h.s,by have:=h.s; simp; omega,h.b.alloc (Nat.le_of_lt h.s) o⟩
theorem tb_dr {b m:Nat} {w W:World} {xm:Int→Int} (h:TbI b m w xm W):TbI b m w xm W.drew:=⟨bx_drew h.x,h.s,h.b.drew⟩
theorem bX {b m:Nat} {w W:World} {xm:Int→Int} (h:TbI b m w xm W) (q:Nat):TbI b m w xm (W.drewN q):=⟨bx_drewN h.x q,h.s,⟨h.b.os,h.b.tape,h.b.output,h.b.size,h.b.block⟩⟩
theorem tb_made {w w':World} {m base:Nat} {e:TypeId} (hm:0 < m) (h:w'.ownsRow base e 1 (.slice (some ⟨w.heap.size,0,none⟩) m m) m (madeCells (Value.cells (.int .i64 0)) (m * 1)).toList) (hg:w.grownBy w' none):TbI w.heap.size m w (fun _=>0) w':=by
 have e1:(madeCells (Value.cells (.int .i64 0)) (m * 1)).toList = List.replicate m (.int .i64 0):=by
  rw [Nat.mul_one]; exact toList_madeCells_one _ _
 rw [e1] at h
 have hc:∀ j,j < m→w'.cell? ⟨w.heap.size,j,none⟩ = some (.int .i64 0):=fun j K=>by
  rw [h.cellAt j (by omega),yI,if_pos K]
 refine ⟨⟨fun j u hu=>?_,fun j K=>?_⟩,yK w' _ (hc 0 hm),(Below.refl _ w).grown hg (Nat.le_refl _) (fun k hk=>by simp at hk)⟩
 ·have K:j < m:=by have:=(yG.1 hu).1; rwa [dm] at this
  rw [tbl_at _ K] at hu
  rw [Nat.zero_add,hc j K]; exact hu
 ·rw [dm] at K
  rw [Nat.zero_add,hc j K]
  exact ⟨rfl,h.frozenAt j⟩
end Go.Proofs.YtbakanofkghmiaaGreat
