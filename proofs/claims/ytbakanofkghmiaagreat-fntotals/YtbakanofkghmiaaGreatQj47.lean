/-
  Two events that are one. No function walked.
-/
import Derived.Test.YtbakanofkghmiaaGreatQj32
set_option linter.unusedVariables false
set_option maxHeartbeats 6400000
set_option maxRecDepth 100000
namespace Go.Proofs.YtbakanofkghmiaaGreat
open Go.RowKit
def sameE (a b:Ev):Bool:=(a.kind == b.kind) && ((a.id == b.id) && ((a.other == b.other) && ((a.qty == b.qty) && ((a.price == b.price) && ((a.reason == b.reason) && ((a.cmd.k == b.cmd.k) && ((a.cmd.s == b.cmd.s) && ((a.cmd.t == b.cmd.t) && ((a.cmd.l == b.cmd.l) && ((a.cmd.q == b.cmd.q) && ((a.cmd.i == b.cmd.i) && ((fbit a.cmd.p == fbit b.cmd.p) && decide (a.cmd.g.toList = b.cmd.g.toList)))))))))))))
theorem ite_okb (p:Prop) [Decidable p] (b:Bool) (W:World):(if p then Result.ok (Value.bool b) W else Result.ok (Value.bool false) W) = Result.ok (Value.bool (decide p && b)) W:=by
 split <;> simp_all
theorem eqVlE (a b:Ev) (W:World):(binOp .eql 187 (vlV a) (vlV b)).run Tryz.prog W = .ok (.bool (sameE a b)) W:=by
 obtain ⟨ak,⟨a1,a2,a3,a4,a5,a6,a7,a8⟩,a9,a10,a11,a12,a13⟩:=a
 obtain ⟨bk,⟨b1,b2,b3,b4,b5,b6,b7,b8⟩,b9,b10,b11,qe,b13⟩:=b
 unfold vlV
 simp only
 go_simp
 unfold sameE
 simp only
 have h7:((fbit a7:Int) = fbit b7) ↔ fbit a7 = fbit b7:=by omega
 simp only [h7,ite_okb,Bool.and_true]
 rfl
def aY (e:Ev):Cm:=if e.kind = 1 then e.cmd else if e.kind = 2 then e.cmd else if e.kind = 6 then ⟨2,0,0,0,0,e.id,0,⟨#[]⟩⟩ else if e.kind = 7 then ⟨3,0,0,0,e.qty,e.id,0,⟨#[]⟩⟩ else if e.kind = 8 then ⟨4,0,0,0,0,0,0,⟨#[]⟩⟩ else zCm
def dg (k:Int):Bool:=(k == 1) || ((k == 2) || ((k == 6) || ((k == 7) || (k == 8))))
set_option maxRecDepth 100000 in
set_option maxHeartbeats 3200000 in
theorem toldCmd_all (e:Ev) (w:World):Calls Tryz.prog 92 #[evV e] w fun r w'=>r = .returned (.tuple #[cmV (aY e),.bool (dg e.kind)])∧Below w.heap.size w w':=by
 have hsf:=sfl
 obtain ⟨uB,⟨ck,cs,ct,cl,cq,ci,cp,cg⟩,id,xY,qty,uw,ub⟩:=e
 unfold evV aY cmV zCm dg
 simp only
 by_cases hk:uB = 1 ∨ uB = 2 ∨ uB = 6 ∨ uB = 7 ∨ uB = 8
 ·rcases hk with rfl | rfl | rfl | rfl | rfl
  all_goals
   simp
   go_enter Tryz.func92,Tryz.ntmps92
   go_wp2_with fail
   go_returns
   exact ⟨rfl,by go_grown⟩
 ·have Q:(uB == 1) = false:=by simp; omega
  have N:(uB == 2) = false:=by simp; omega
  have h6:(uB == 6) = false:=by simp; omega
  have h7:(uB == 7) = false:=by simp; omega
  have h8:(uB == 8) = false:=by simp; omega
  rw [if_neg (by omega),if_neg (by omega),if_neg (by omega),if_neg (by omega),if_neg (by omega),Q,N,h6,h7,h8]
  clear hk
  simp
  go_enter Tryz.func92,Tryz.ntmps92
  go_wp2_with fail
  go_returns
  exact ⟨rfl,by go_grown⟩
def cutC (c:Cm):Cm:=⟨c.k,c.s,c.t,c.l,c.q,c.i,c.p,cutB c.g⟩
theorem cutC_short {c:Cm} (h:c.g.size ≤ 12):cutC c = c:=by
 have e:cutB c.g = c.g:=by unfold cutB; rw [if_neg (by omega)]
 unfold cutC; rw [e]
theorem cut_long {s:ByteArray} (h:12 < s.size):(cutB s).size = 13:=by
 unfold cutB; rw [if_pos h]; simp; omega
theorem toList_len0 {s:ByteArray} (h:12 < s.size):s.toList ≠ []:=fun e=>by
 have Q:s.toList = s.data.toList:=Go.ByteArray.toList_eq s
 rw [Q] at e
 have N:s.data.toList.length = 0:=by rw [e]; rfl
 have h3:s.data.toList.length = s.size:=by rw [Array.length_toList]; rfl
 omega
theorem refR_long {n:Int} {l:List Od} {c:Cm} (h:12 < c.g.size) :
  refR n l c = if c.k = 1 then (if c.i = 0 then (if betB c.s 1 2 = false then 3 else if betB c.t 1 5 = false then 4 else if lifW c = true then 5 else if prcB c = false then 6 else if betB c.q 1 1000000 = false then 7 else 8) else 2) else if c.k = 2 then 2 else if c.k = 3 then 2 else if c.k = 4 then 2 else 1:=by
 have hg:decide (([]:List UInt8) = c.g.toList) = false:=decide_eq_false fun e=>toList_len0 h e.symm
 have hz:(⟨#[]⟩:ByteArray).toList = []:=by decide +kernel
 rw [refR]
 by_cases Q:c.k = 1
 ·rw [if_pos Q,if_pos Q]
  have e:aK ⟨1,c.s,c.t,c.l,c.q,0,c.p,c.g⟩ c = decide (c.i = 0):=by
   rw [aK]
   simp only [Q,beq_self_eq_true,Bool.true_and,decide_true,Bool.and_true]
   by_cases hi:c.i = 0
   ·rw [hi]; rfl
   ·rw [decide_eq_false hi]
    simpa using fun e=>hi e.symm
  rw [e]
  have en:newR n l c = if betB c.s 1 2 = false then 3 else if betB c.t 1 5 = false then 4 else if lifW c = true then 5 else if prcB c = false then 6 else if betB c.q 1 1000000 = false then 7 else 8:=by
   rw [newR,tag_long _ (by omega),if_pos rfl]
  rw [en]
  by_cases hi:c.i = 0
  ·rw [if_pos (by simpa using hi),if_pos hi]
  ·rw [if_neg (by simpa using hi),if_neg hi]
 ·rw [if_neg Q,if_neg Q]
  have e:∀ a b:Int,∀ k2:Int,aK ⟨k2,0,0,0,a,b,0,⟨#[]⟩⟩ c = false:=fun a b k2=>by
   rw [aK]
   simp only [hz,hg,Bool.and_false]
  rw [e,e,e]
  simp only [if_neg Bool.false_ne_true]
theorem refR_cut {n:Int} {l:List Od} (c:Cm):refR n l (cutC c) = refR n l c:=by
 by_cases h:12 < c.g.size
 ·have N:12 < (cutC c).g.size:=by show 12 < (cutB c.g).size; rw [cut_long h]; decide
  rw [refR_long h,refR_long N]
  rfl
 ·rw [cutC_short (by omega)]
theorem cut_cut (c:Cm):cutC (cutC c) = cutC c:=by
 by_cases h:12 < c.g.size
 ·have e:cutB (cutB c.g) = cutB c.g:=cutB_one _ (cut_long h)
  unfold cutC
  simp only [e]
 ·rw [cutC_short (c:=c) (by omega),cutC_short (by omega)]
theorem form1 {n:Int} {l:List Od} {c:Cm} (h:refR n l c = 0) (hk:c.k = 1):c = ⟨1,c.s,c.t,c.l,c.q,0,c.p,c.g⟩:=by
 rw [refR,if_pos hk] at h
 have e:aK ⟨1,c.s,c.t,c.l,c.q,0,c.p,c.g⟩ c = true:=by
  cases hs:aK ⟨1,c.s,c.t,c.l,c.q,0,c.p,c.g⟩ c
  ·rw [hs] at h; cases h
  ·rfl
 rw [aK] at e
 simp only [xh,beq_iff_eq] at e
 obtain ⟨k,s,t,l',q,i,p,g⟩:=c
 simp only at hk e ⊢
 rw [hk,← e.2.2.2.2.2.1]
theorem same_self (c:Cm):aK c c = true:=by
 rw [aK]; simp
theorem toldCan {n:Int} {l:List Od} {c:Cm} (h:refR n l c = 0) (hk:c.k = 2):refR n l ⟨2,0,0,0,0,c.i,0,⟨#[]⟩⟩ = 0:=by
 rw [refR,if_neg (by omega),if_pos hk] at h
 rw [refR,if_neg (by show ¬ (2:Int) = 1; decide),if_pos (by rfl),if_pos (same_self _)]
 split at h
 ·exact h
 ·cases h
theorem toldRed {n:Int} {l:List Od} {c:Cm} (h:refR n l c = 0) (hk:c.k = 3):refR n l ⟨3,0,0,0,c.q,c.i,0,⟨#[]⟩⟩ = 0:=by
 rw [refR,if_neg (by omega),if_neg (by omega),if_pos hk] at h
 rw [refR,if_neg (by show ¬ (3:Int) = 1; decide),if_neg (by show ¬ (3:Int) = 2; decide),if_pos (by rfl),if_pos (same_self _)]
 split at h
 ·exact h
 ·cases h
theorem toldDay (n:Int) (l:List Od):refR n l ⟨4,0,0,0,0,0,0,⟨#[]⟩⟩ = 0:=by
 rw [refR,if_neg (by show ¬ (4:Int) = 1; decide),if_neg (by show ¬ (4:Int) = 2; decide),if_neg (by show ¬ (4:Int) = 3; decide),if_pos (by rfl),if_pos (same_self _)]
def sK (kd:Int):List Ev→Int
 | []=>0
 | e :: es=>(if e.kind = kd then e.qty else 0) + sK kd es
theorem sK_append (kd:Int):∀ a b:List Ev,sK kd (a ++ b) = sK kd a + sK kd b
 | [],b=>by simp [sK]
 | e :: a,b=>by rw [List.cons_append,sK,sK,sK_append kd a b]; omega
theorem matL_sums {c:Cm} {id:Int}:∀ (n:Nat) (l:List Od) (left:Int) (ts:List Ev),GoodL l→0 ≤ left→left ≤ 1000000→(∀ e ∈ ts,e.kind = 3∧0 ≤ e.qty∧e.qty ≤ 1000000) →
  (matL c id n l left ts).2.1 + sK 3 (matL c id n l left ts).2.2 = left + sK 3 ts∧∀ e ∈ (matL c id n l left ts).2.2,e.kind = 3∧0 ≤ e.qty∧e.qty ≤ 1000000
 | 0,l,left,ts,h,h0,Q,ht=>⟨rfl,ht⟩
 | n + 1,l,left,ts,h,h0,Q,ht=>by
  rw [matL]
  by_cases hl:0 < left
  ·rw [if_pos hl]
   cases hf:aV l (othS c.s) with
   | none=>exact ⟨rfl,ht⟩
   | some o =>
    simp only
    by_cases hm:bz c o = true
    ·rw [if_pos hm]
     obtain ⟨vD,_⟩:=dO hf
     obtain ⟨k,hk⟩:=List.getElem?_of_mem vD
     have Z:=h.left o vD
     rw [plc_at h.rise hk,Int.toNat_natCast]
     obtain ⟨e1,e2⟩:=matL_sums (c:=c) (id:=id) n (aM l k o (min left o.left)) (left - min left o.left) (ts ++ [trE id o.id (min left o.left) o.ticks]) (dv h hk (by omega) (by omega)).1 (by omega) (by omega) (fun e he=>by
      rcases List.mem_append.1 he with he | he
      ·exact ht e he
      ·rw [List.mem_singleton.1 he]
       exact ⟨rfl,by show 0 ≤ min left o.left; omega,by show min left o.left ≤ 1000000; omega⟩)
     refine ⟨?_,e2⟩
     rw [e1,sK_append]
     have:sK 3 [trE id o.id (min left o.left) o.ticks] = min left o.left:=by simp [sK,trE]
     rw [this]; omega
    ·rw [if_neg hm]; exact ⟨rfl,ht⟩
  ·rw [if_neg hl]; exact ⟨rfl,ht⟩
theorem stE_lenT {next:Int} {l:List Od} {c:Cm} (hg:GoodL l):(stE next l c).length ≤ 100:=by
 have hl:=hg.len
 rw [stE]
 split
 ·split
  ·have Q:=dw (c:=c) (id:=next) 21 l c.q []
   rw [accE]
   simp only [yQ,List.length_cons,List.length_nil] at Q ⊢
   split <;> simp <;> omega
  ·split
   ·split <;> simp
   ·split
    ·simp
    ·have Q:(l.filter dyB).length ≤ 20:=yO (List.length_filter_le _ _) hl
     simp only [List.length_cons,List.length_map]; omega
 ·simp
theorem run_lenT (cs:List Cm):∀ k,k ≤ cs.length→(runS (cs.take k)).g.length = k:=by
 intro k
 induction k with
 | zero=>intro _; simp [runS]
 | succ k ih =>
  intro hk
  obtain ⟨c,hc⟩:∃ c,cs[k]? = some c:=⟨_,yI (by omega)⟩
  rw [cZ cs hc]
  show ((runS (cs.take k)).g ++ [_]).length = k + 1
  rw [yQ,ih (by omega)]; rfl
theorem run_group (cs:List Cm):∀ k,k ≤ cs.length→∀ i,i < k→∃ c,cs[i]? = some c∧(runS (cs.take k)).g[i]? = some (stE (runS (cs.take i)).n (runS (cs.take i)).l c):=by
 intro k
 induction k with
 | zero=>intro _ i hi; omega
 | succ k ih =>
  intro hk i hi
  obtain ⟨c,hc⟩:∃ c,cs[k]? = some c:=⟨_,yI (by omega)⟩
  have hl:=run_lenT cs k (by omega)
  rw [cZ cs hc]
  by_cases h:i < k
  ·obtain ⟨d,Q,N⟩:=ih (by omega) i h
   refine ⟨d,Q,?_⟩
   show ((runS (cs.take k)).g ++ [_])[i]? = _
   rw [List.getElem?_append_left (by omega)]
   exact N
  ·obtain rfl:i = k:=by omega
   refine ⟨c,hc,?_⟩
   show ((runS (cs.take i)).g ++ [_])[i]? = _
   rw [List.getElem?_append_right (by omega),hl]
   simp
def tolL:List (List Ev)→Option (List Cm)
 | []=>some []
 | [] :: _=>none
 | (e :: _) :: gs=>if dg e.kind = true then (tolL gs).map (aY e :: ·) else none
def evsG:Int→List Od→List Cm→List (List Ev)
 | _,_,[]=>[]
 | n,l,c :: cs=>stE n l c :: evsG (stN n l c) (stL n l c) cs
theorem evs_run:∀ (cs:List Cm) (s:RunSt),(cs.foldl aX s).g = s.g ++ evsG s.n s.l cs
 | [],s=>by simp [evsG]
 | c :: cs,s=>by
  rw [List.foldl_cons,evs_run cs (aX s c),evsG]
  show s.g ++ [stE s.n s.l c] ++ _ = _
  simp [aX]
theorem told_one {n:Int} {l:List Od} (c:Cm) (hg:GoodL l):∃ e es,stE n l c = e :: es∧dg e.kind = true∧(aY e).g.size ≤ 13∧stN n l (aY e) = stN n l c∧stL n l (aY e) = stL n l c∧stE n l (aY e) = stE n l c:=by
 by_cases h0:refR n l c = 0
 ·by_cases hk:c.k = 1
  ·have hf:=form1 h0 hk
   have kQ:c.g.size ≤ 13:=by
    rcases Nat.lt_or_ge 13 c.g.size with hgt | jI
    ·exfalso
     rw [refR_long (by omega),if_pos hk] at h0
     revert h0
     repeat' split
     all_goals (intro h; cases h)
    ·exact jI
   have e1:stE n l c = accE c n (matL c n 21 l c.q []):=by rw [stE,if_pos h0,if_pos hk]
   refine ⟨⟨1,⟨1,c.s,c.t,c.l,c.q,0,c.p,c.g⟩,n,0,0,0,0⟩,_,e1,rfl,?_,?_⟩
   ·exact kQ
   ·have e2:aY ⟨1,⟨1,c.s,c.t,c.l,c.q,0,c.p,c.g⟩,n,0,0,0,0⟩ = c:=by
     unfold aY; rw [if_pos (by rfl)]; exact hf.symm
    rw [e2]; exact ⟨rfl,rfl,rfl⟩
  ·by_cases N:c.k = 2
   ·have ht:=toldCan h0 N
    have qq:idR l c.i = 0:=by
     rw [refR,if_neg hk,if_pos N] at h0
     split at h0
     ·exact h0
     ·cases h0
    rcases dt l c.i with hp | ⟨k,o,hp,Z⟩
    ·rw [idR,if_pos (by omega)] at qq; cases qq
    ·have e1:stE n l c = [⟨6,zCm,c.i,0,o.left,0,0⟩]:=by
      rw [stE,if_pos h0,if_neg hk,if_pos N,hp,Int.toNat_natCast,Z]
     refine ⟨_,_,e1,rfl,Nat.zero_le _,?_⟩
     have e2:aY ⟨6,zCm,c.i,0,o.left,0,0⟩ = ⟨2,0,0,0,0,c.i,0,⟨#[]⟩⟩:=rfl
     rw [e2]
     refine ⟨?_,?_,?_⟩
     ·rw [stN,stN,if_neg (by rintro ⟨-,h⟩; exact absurd (show (2:Int) = 1 from h) (by decide)),if_neg (fun x=>hk x.2)]
     ·rw [stL,stL,if_pos ht,if_pos h0,if_neg hk,if_pos N,if_neg (by show ¬ (2:Int) = 1; decide),if_pos (by rfl)]
     ·rw [stE,stE,if_pos ht,if_pos h0,if_neg hk,if_pos N,if_neg (by show ¬ (2:Int) = 1; decide),if_pos (by rfl)]
   ·by_cases h3:c.k = 3
    ·have ht:=toldRed h0 h3
     have e1:stE n l c = [⟨7,zCm,c.i,0,c.q,0,0⟩]:=by
      rw [stE,if_pos h0,if_neg hk,if_neg N,if_pos h3]
     refine ⟨_,_,e1,rfl,Nat.zero_le _,?_⟩
     have e2:aY ⟨7,zCm,c.i,0,c.q,0,0⟩ = ⟨3,0,0,0,c.q,c.i,0,⟨#[]⟩⟩:=rfl
     rw [e2]
     refine ⟨?_,?_,?_⟩
     ·rw [stN,stN,if_neg (by rintro ⟨-,h⟩; exact absurd (show (3:Int) = 1 from h) (by decide)),if_neg (fun x=>hk x.2)]
     ·rw [stL,stL,if_pos ht,if_pos h0,if_neg hk,if_neg N,if_pos h3,if_neg (by show ¬ (3:Int) = 1; decide),if_neg (by show ¬ (3:Int) = 2; decide),if_pos (by rfl)]
     ·rw [stE,stE,if_pos ht,if_pos h0,if_neg hk,if_neg N,if_pos h3,if_neg (by show ¬ (3:Int) = 1; decide),if_neg (by show ¬ (3:Int) = 2; decide),if_pos (by rfl)]
    ·have ht:=toldDay n l
     have e1:stE n l c = ⟨8,zCm,0,0,((l.filter dyB).length:Nat),0,0⟩ :: (l.filter dyB).map expE:=by
      rw [stE,if_pos h0,if_neg hk,if_neg N,if_neg h3]
     refine ⟨_,_,e1,rfl,Nat.zero_le _,?_⟩
     have e2:aY ⟨8,zCm,0,0,((l.filter dyB).length:Nat),0,0⟩ = ⟨4,0,0,0,0,0,0,⟨#[]⟩⟩:=rfl
     rw [e2]
     refine ⟨?_,?_,?_⟩
     ·rw [stN,stN,if_neg (by rintro ⟨-,h⟩; exact absurd (show (4:Int) = 1 from h) (by decide)),if_neg (fun x=>hk x.2)]
     ·rw [stL,stL,if_pos ht,if_pos h0,if_neg hk,if_neg N,if_neg h3,if_neg (by show ¬ (4:Int) = 1; decide),if_neg (by show ¬ (4:Int) = 2; decide),if_neg (by show ¬ (4:Int) = 3; decide)]
     ·rw [stE,stE,if_pos ht,if_pos h0,if_neg hk,if_neg N,if_neg h3,if_neg (by show ¬ (4:Int) = 1; decide),if_neg (by show ¬ (4:Int) = 2; decide),if_neg (by show ¬ (4:Int) = 3; decide)]
 ·have e1:stE n l c = [⟨2,cutC c,0,0,0,0,refR n l c⟩]:=by rw [stE,if_neg h0]; rfl
  refine ⟨_,_,e1,rfl,cutB_size _,?_⟩
  have e2:aY ⟨2,cutC c,0,0,0,0,refR n l c⟩ = cutC c:=rfl
  have hr:refR n l (cutC c) = refR n l c:=refR_cut c
  have Q:refR n l (cutC c) ≠ 0:=by rw [hr]; exact h0
  rw [e2]
  refine ⟨?_,?_,?_⟩
  ·rw [stN,stN,if_neg (fun x=>Q x.1),if_neg (fun x=>h0 x.1)]
  ·rw [stL,stL,if_neg Q,if_neg h0]
  ·rw [e1,stE,if_neg Q,hr]
   show [(⟨2,cutC (cutC c),0,0,0,0,refR n l c⟩:Ev)] = _
   rw [cut_cut]
def InvN (n:Int) (l:List Od) (m:Nat):Prop:=Inv n l∧0 ≤ n∧n + m ≤ 1000000
theorem told_all:∀ (cs:List Cm) (n:Int) (l:List Od),InvN n l cs.length→∃ ts,tolL (evsG n l cs) = some ts∧ts.length = cs.length∧(∀ c ∈ ts,c.g.size ≤ 13)∧evsG n l ts = evsG n l cs∧∀ s:RunSt,s.n = n→s.l = l→ts.foldl aX s = cs.foldl aX s
 | [],n,l,h=>⟨[],rfl,rfl,by simp,rfl,fun s _ _=>rfl⟩
 | c :: cs,n,l,h=>by
  obtain ⟨hi,h0,hm⟩:=h
  rw [List.length_cons] at hm
  obtain ⟨e,es,e1,e2,e3,e4,e5,e6⟩:=told_one (n:=n) c hi.good
  obtain ⟨i1,i2,i3⟩:=inv_step c hi h0 (by omega)
  obtain ⟨ts,t1,t2,t3,t4,t5⟩:=told_all cs (stN n l c) (stL n l c) ⟨i1,by omega,by omega⟩
  refine ⟨aY e :: ts,?_,by simpa using t2,?_,?_,?_⟩
  ·rw [evsG,e1,tolL,if_pos e2,t1]; rfl
  ·intro x hx
   rcases List.mem_cons.1 hx with rfl | hx
   ·exact e3
   ·exact t3 x hx
  ·rw [evsG,evsG,e4,e5,e6,t4]
  ·intro s hn hl
   subst hn
   subst hl
   rw [List.foldl_cons,List.foldl_cons]
   have er:aX s (aY e) = aX s c:=by unfold aX; rw [e4,e5,e6]
   rw [er]
   exact t5 _ rfl rfl
theorem told_run (cs:List Cm) (h:cs.length ≤ 200):∃ ts,tolL (rsF cs).g = some ts∧ts.length ≤ 200∧(∀ c ∈ ts,c.g.size ≤ 13)∧rsF ts = rsF cs∧(rsF cs).g.length = ts.length:=by
 obtain ⟨ts,t1,t2,t3,t4,t5⟩:=told_all cs 1 [] ⟨inv_start,by decide,by omega⟩
 have er:runS ts = runS cs:=t5 _ rfl rfl
 have eg:(rsF cs).g = evsG 1 [] cs:=by
  rw [rsF,if_pos h]
  show (runS cs).g = _
  unfold runS
  rw [evs_run]; rfl
 refine ⟨ts,by rw [eg]; exact t1,by omega,t3,?_,?_⟩
 ·rw [rsF,rsF,if_pos h,if_pos (by omega),er]
 ·rw [rsF,if_pos h]
  show (runS cs).g.length = _
  rw [(run_inv cs h).2.2.2,t2]
end Go.Proofs.YtbakanofkghmiaaGreat
