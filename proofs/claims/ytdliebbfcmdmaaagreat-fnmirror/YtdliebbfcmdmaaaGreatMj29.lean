/-
  What the types of orders promise, of the groups that a script leads to. No function walked.
-/
import Derived.Test.YtdliebbfcmdmaaaGreatMj28
set_option linter.unusedVariables false
set_option maxHeartbeats 6400000
set_option maxRecDepth 100000
namespace Go.Proofs.YtdliebbfcmdmaaaGreat
open Go.RowKit
def sK (kd:Int):List Ev→Int
 | []=>0
 | e :: es=>(if e.kind = kd then e.qty else 0) + sK kd es
theorem dw (kd:Int):∀ a b:List Ev,sK kd (a ++ b) = sK kd a + sK kd b
 | [],b=>by simp [sK]
 | e :: a,b=>by rw [List.cons_append,sK,sK,dw kd a b]; omega
def QtyOk (es:List Ev):Prop:=∀ e ∈ es,0 ≤ e.qty∧e.qty ≤ 1000000
theorem sK_none {kd:Int}:∀ {es:List Ev},(∀ e ∈ es,e.kind = 3)→kd ≠ 3→sK kd es = 0
 | [],_,_=>rfl
 | e :: es,h,hk=>by
  have Q:=h e (by simp)
  rw [sK,if_neg (by omega),sK_none (fun x hx=>h x (by simp [hx])) hk]; rfl
theorem matL_sums {c:Cm} {id:Int}:∀ (n:Nat) (l:List Od) (left:Int) (ts:List Ev),GoodL l→0 ≤ left→left ≤ 1000000→(∀ e ∈ ts,e.kind = 3∧0 ≤ e.qty∧e.qty ≤ 1000000) →
  (matL c id n l left ts).2.1 + sK 3 (matL c id n l left ts).2.2 = left + sK 3 ts∧∀ e ∈ (matL c id n l left ts).2.2,e.kind = 3∧0 ≤ e.qty∧e.qty ≤ 1000000
 | 0,l,left,ts,h,h0,Q,ht=>⟨rfl,ht⟩
 | n + 1,l,left,ts,h,h0,Q,ht=>by
  rw [matL]
  by_cases hl:0 < left
  ·rw [if_pos hl]
   cases hf:aJ l (othS c.s) with
   | none=>exact ⟨rfl,ht⟩
   | some o =>
    simp only
    by_cases hm:aO c o = true
    ·rw [if_pos hm]
     obtain ⟨vn,_⟩:=de hf
     obtain ⟨k,hk⟩:=List.getElem?_of_mem vn
     have Z:=h.left o vn
     rw [plc_at h.rise hk,Int.toNat_natCast]
     obtain ⟨e1,e2⟩:=matL_sums (c:=c) (id:=id) n (az l k o (min left o.left)) (left - min left o.left) (ts ++ [trE id o.id (min left o.left) o.ticks]) (cM h hk (by omega) (by omega)).1 (by omega) (by omega) (fun e he=>by
      rcases List.mem_append.1 he with he | he
      ·exact ht e he
      ·rw [List.mem_singleton.1 he]
       exact ⟨rfl,by show 0 ≤ min left o.left; omega,by show min left o.left ≤ 1000000; omega⟩)
     refine ⟨?_,e2⟩
     rw [e1,dw]
     have:sK 3 [trE id o.id (min left o.left) o.ticks] = min left o.left:=by simp [sK,trE]
     rw [this]; omega
    ·rw [if_neg hm]; exact ⟨rfl,ht⟩
  ·rw [if_neg hl]; exact ⟨rfl,ht⟩
theorem stE_lenT {next:Int} {l:List Od} {c:Cm} (hg:GoodL l):(stE next l c).length ≤ 100:=by
 have hl:=hg.len
 rw [stE]
 split
 ·split
  ·have Q:=dh (c:=c) (id:=next) 21 l c.q []
   rw [accE]
   simp only [yP,List.length_cons,List.length_nil] at Q ⊢
   split <;> simp <;> omega
  ·split
   ·split <;> simp
   ·split
    ·simp
    ·have Q:(l.filter dyB).length ≤ 20:=yN (List.length_filter_le _ _) hl
     simp only [List.length_cons,List.length_map]; omega
 ·simp
def TyOk (c:Cm) (g:List Ev):Prop :=
 ∃ e es,g = e :: es∧g.length ≤ 100∧(e.kind ≠ 1 ∨ (e.kind = 1∧QtyOk g∧1 ≤ c.q∧c.q ≤ 1000000∧sK 3 g + sK 4 g + sK 5 g = c.q∧(c.t = 5→sK 3 g ≤ 0)∧(c.t = 4→sK 3 g = c.q)∧(c.t = 2 ∨ c.t = 3→sK 4 g ≤ 0)∧(c.t = 1 ∨ c.t = 5→sK 5 g ≤ 0)))
theorem ty_acc {n:Int} {l:List Od} {c:Cm} (hg:GoodL l) (h0:refR n l c = 0) (hk:c.k = 1):TyOk c (stE n l c):=by
 have vv:stE n l c = accE c n (matL c n 21 l c.q []):=by rw [stE,if_pos h0,if_pos hk]
 rw [refR,if_pos hk] at h0
 split at h0
 ·rw [newR] at h0
  have L:betB c.q 1 1000000 = true:=by
   cases L:betB c.q 1 1000000
   ·exfalso
    revert h0
    rw [L]
    repeat (split; (intro h; cases h))
    intro _
    simp at *
   ·rfl
  have hq:1 ≤ c.q∧c.q ≤ 1000000:=by simpa [betB] using L
  have hm:matR n c (matL c n 21 l c.q []) = 0:=by
   revert h0
   repeat (split; (intro h; cases h))
   exact id
  obtain ⟨s1,s2⟩:=matL_sums (c:=c) (id:=n) 21 l c.q [] hg (by omega) hq.2 (by simp)
  obtain ⟨-,g1,g2⟩:=bV (c:=c) (id:=n) 21 l c.q [] hg (by omega) hq.2
  have xD:(stE n l c).length ≤ 100:=stE_lenT hg
  rw [vv] at xD ⊢
  generalize matL c n 21 l c.q [] = qt at s1 s2 g1 g2 hm xD ⊢
  have k4:sK 4 qt.2.2 = 0:=sK_none (fun e he=>(s2 e he).1) (by decide)
  have k5:sK 5 qt.2.2 = 0:=sK_none (fun e he=>(s2 e he).1) (by decide)
  rw [matR] at hm
  have hp:¬ (c.t = 5∧0 < qt.2.2.length):=fun h=>by rw [if_pos h] at hm; cases hm
  rw [if_neg hp] at hm
  have hf:¬ (c.t = 4∧0 < qt.2.1):=fun h=>by rw [if_pos h] at hm; cases hm
  have z0:sK 3 ([]:List Ev) = 0:=rfl
  have h5:c.t = 5→sK 3 qt.2.2 = 0:=fun h=>by
   have:qt.2.2 = []:=List.length_eq_zero_iff.1 (by omega)
   rw [this]; rfl
  rw [accE] at xD ⊢
  refine ⟨_,_,List.cons_append,xD,.inr ⟨rfl,?_,hq.1,hq.2,?_⟩⟩
  ·intro e he
   rcases List.mem_append.1 he with he | he
   ·rcases List.mem_cons.1 he with rfl | he
    ·exact ⟨by show (0:Int) ≤ 0; decide,by show (0:Int) ≤ 1000000; decide⟩
    ·exact (s2 e he).2
   ·split at he
    ·rw [List.mem_singleton.1 he]; exact ⟨g1,g2⟩
    ·cases he
  ·rw [dw,dw,dw]
   have a3:∀ (kd:Int),kd ≠ 1→sK kd (⟨1,⟨1,c.s,c.t,c.l,c.q,0,c.p,c.g⟩,n,0,0,0,0⟩ :: qt.2.2) = sK kd qt.2.2:=fun kd hkd=>by
    rw [sK,if_neg (fun e=>hkd e.symm),Int.zero_add]
   rw [a3 3 (by decide),a3 4 (by decide),a3 5 (by decide)]
   by_cases hl:0 < qt.2.1
   ·rw [if_pos hl]
    by_cases hr:aA c.t = true
    ·rw [if_pos hr]
     have hr':c.t = 1 ∨ c.t = 5:=by simpa [aA] using hr
     simp only [sK]
     simp
     omega
    ·rw [if_neg hr]
     have hr':¬ (c.t = 1 ∨ c.t = 5):=by simpa [aA] using hr
     simp only [sK]
     simp
     omega
   ·rw [if_neg hl]
    simp only [sK]
    omega
 ·cases h0
theorem ty_other {n:Int} {l:List Od} {c:Cm} (hg:GoodL l) (h:¬ (refR n l c = 0∧c.k = 1)):TyOk c (stE n l c):=by
 have xD:(stE n l c).length ≤ 100:=stE_lenT hg
 by_cases h0:refR n l c = 0
 ·have hk:c.k ≠ 1:=fun hk=>h ⟨h0,hk⟩
  have vv:stE n l c = if c.k = 2 then (match l[(plc l c.i).toNat]? with | some o=>[⟨6,zCm,c.i,0,o.left,0,0⟩] | none=>[]) else if c.k = 3 then [⟨7,zCm,c.i,0,c.q,0,0⟩] else ⟨8,zCm,0,0,((l.filter dyB).length:Nat),0,0⟩ :: (l.filter dyB).map expE:=by
   rw [stE,if_pos h0,if_neg hk]; rfl
  by_cases N:c.k = 2
  ·rw [if_pos N] at vv
   rw [refR,if_neg hk,if_pos N] at h0
   split at h0
   ·rw [idR] at h0
    rcases dg l c.i with hp | ⟨k,o,hp,Z⟩
    ·rw [if_pos (by omega)] at h0; cases h0
    ·rw [hp,Int.toNat_natCast,Z] at vv
     simp only at vv
     exact ⟨_,_,vv,xD,.inl (show (6:Int) ≠ 1 by decide)⟩
   ·cases h0
  ·rw [if_neg N] at vv
   by_cases h3:c.k = 3
   ·rw [if_pos h3] at vv
    exact ⟨_,_,vv,xD,.inl (show (7:Int) ≠ 1 by decide)⟩
   ·rw [if_neg h3] at vv
    exact ⟨_,_,vv,xD,.inl (show (8:Int) ≠ 1 by decide)⟩
 ·have vv:stE n l c = [⟨2,⟨c.k,c.s,c.t,c.l,c.q,c.i,c.p,cutB c.g⟩,0,0,0,0,refR n l c⟩]:=by rw [stE,if_neg h0]
  exact ⟨_,_,vv,xD,.inl (show (2:Int) ≠ 1 by decide)⟩
theorem ty_all {n:Int} {l:List Od} {c:Cm} (hg:GoodL l):TyOk c (stE n l c):=by
 by_cases h:refR n l c = 0∧c.k = 1
 ·exact ty_acc hg h.1 h.2
 ·exact ty_other hg h
theorem run_lenT (cs:List Cm):∀ k,k ≤ cs.length→(runS (cs.take k)).g.length = k:=by
 intro k
 induction k with
 | zero=>intro _; simp [runS]
 | succ k ih =>
  intro hk
  obtain ⟨c,hc⟩:∃ c,cs[k]? = some c:=⟨_,yH (by omega)⟩
  rw [cB cs hc]
  show ((runS (cs.take k)).g ++ [_]).length = k + 1
  rw [yP,ih (by omega)]; rfl
theorem run_group (cs:List Cm):∀ k,k ≤ cs.length→∀ i,i < k→∃ c,cs[i]? = some c∧(runS (cs.take k)).g[i]? = some (stE (runS (cs.take i)).n (runS (cs.take i)).l c):=by
 intro k
 induction k with
 | zero=>intro _ i hi; omega
 | succ k ih =>
  intro hk i hi
  obtain ⟨c,hc⟩:∃ c,cs[k]? = some c:=⟨_,yH (by omega)⟩
  have hl:=run_lenT cs k (by omega)
  rw [cB cs hc]
  by_cases h:i < k
  ·obtain ⟨d,Q,N⟩:=ih (by omega) i h
   refine ⟨d,Q,?_⟩
   show ((runS (cs.take k)).g ++ [_])[i]? = _
   rw [List.getElem?_append_left (by omega)]
   exact N
  ·obtain rfl:i = k:=by omega
   refine ⟨c,hc,?_⟩
   show ((runS (cs.take i)).g ++ [_])[i]? = _
   rw [List.getElem?_append_right (by omega),hl]
   simp
theorem types_ok (cs:List Cm) (h:cs.length ≤ 200) (i:Nat) (c:Cm) (g:List Ev) (hc:cs[i]? = some c) (hg:(rsF cs).g[i]? = some g):TyOk c g:=by
 have hi:=(yG.1 hc).1
 obtain ⟨d,Q,N⟩:=run_group cs cs.length tg i hi
 rw [yZ tg] at N
 have hr:(rsF cs).g = (runS cs).g:=by rw [rsF,if_pos h]
 rw [hr,N] at hg
 rw [hc] at Q
 obtain rfl:=Option.some.inj Q
 obtain rfl:=Option.some.inj hg
 exact ty_all (cO cs h i (by omega)).1.good

def mO (o:Od):Od:=⟨o.id,3 - o.side,800 - o.ticks,o.left,o.life,o.tag⟩
theorem bt_mir (s:Bool) (a b:Int):bt (!s) (800 - a) (800 - b) ↔ bt s a b:=by
 cases s <;> simp only [bt,Bool.not_true,Bool.not_false] <;> omega
theorem insT_mir (s:Bool) (k:Int):∀ T:List Int,insT (!s) (800 - k) (T.map (800 - ·)) = (insT s k T).map (800 - ·)
 | []=>rfl
 | a :: r=>by
  rw [List.map_cons,insT,insT]
  by_cases h:bt s k a
  ·rw [if_pos h,if_pos ((bt_mir s k a).2 h)]; rfl
  ·rw [if_neg h,if_neg (fun x=>h ((bt_mir s k a).1 x))]
   by_cases e:k = a
   ·rw [if_pos e,if_pos (by rw [e])]; rfl
   ·rw [if_neg e,if_neg (fun x=>e (by omega)),insT_mir s k r]; rfl
theorem tks_mir (s:Bool):∀ l:List Od,tks (!s) (l.map mO) = (tks s l).map (800 - ·)
 | []=>rfl
 | o :: r=>by
  rw [List.map_cons,tks,tks,tks_mir s r]
  exact insT_mir s o.ticks _
theorem dq {p q:Od→Bool} (h:∀ o,q (mO o) = p o):∀ l:List Od,(l.map mO).filter q = (l.filter p).map mO
 | []=>rfl
 | o :: r=>by
  rw [List.map_cons,List.filter_cons,List.filter_cons,h o,dq h r]
  split <;> rfl
theorem side_mir (l:List Od) (sd:Int):zt (l.map mO) (3 - sd) = (zt l sd).map mO :=
 dq (fun o=>by
  show decide (3 - o.side = 3 - sd) = decide (o.side = sd)
  by_cases h:o.side = sd
  ·rw [decide_eq_true h,decide_eq_true (by omega)]
  ·rw [decide_eq_false h,decide_eq_false (by omega)]) l
theorem atK_mir (l:List Od) (k:Int):atK (l.map mO) (800 - k) = (atK l k).map mO :=
 dq (fun o=>by
  show decide (800 - o.ticks = 800 - k) = decide (o.ticks = k)
  by_cases h:o.ticks = k
  ·rw [decide_eq_true h,decide_eq_true (by omega)]
  ·rw [decide_eq_false h,decide_eq_false (by omega)]) l
theorem flat_mir (l:List Od):∀ T:List Int,(T.map (800 - ·)).flatMap (atK (l.map mO)) = (T.flatMap (atK l)).map mO
 | []=>rfl
 | k :: T=>by rw [List.map_cons,List.flatMap_cons,List.flatMap_cons,List.map_append,flat_mir l T,atK_mir]
theorem qu_mir (s:Bool) (l:List Od):quOf (!s) (l.map mO) = (quOf s l).map mO:=by
 rw [quOf,quOf,tks_mir,flat_mir]
theorem lvs_mir (s:Bool) (sd sd':Int) (l:List Od):(aE (!s) sd' (l.map mO)).length = (aE s sd l).length:=by
 rw [aE,aE,tks_mir]; simp
theorem front_mir (l:List Od) {sd:Int} (h:sd = 1 ∨ sd = 2):aJ (l.map mO) (3 - sd) = (aJ l sd).map mO:=by
 rw [aJ,aJ,side_mir]
 have e:decide (3 - sd = 1) = !(decide (sd = 1)):=by rcases h with rfl | rfl <;> rfl
 rw [e,qu_mir,List.head?_map]
theorem full_mir (l:List Od):aU (l.map mO) = aU l:=by
 have e1:zt (l.map mO) 1 = (zt l 2).map mO:=side_mir l 2
 have e2:zt (l.map mO) 2 = (zt l 1).map mO:=side_mir l 1
 have Q:(aE true 1 ((zt l 2).map mO)).length = (aE false 2 (zt l 2)).length:=lvs_mir false 2 1 _
 have N:(aE false 2 ((zt l 1).map mO)).length = (aE true 1 (zt l 1)).length:=lvs_mir true 1 2 _
 rw [aU,aU,List.length_map,e1,e2,Q,N]
 split
 ·rfl
 ·rw [Int.add_comm]
theorem plcF_mir (id:Int):∀ (l:List Od) (k:Nat),plcF id (l.map mO) k = plcF id l k
 | [],_=>rfl
 | o :: r,k=>by
  rw [List.map_cons,plcF,plcF,plcF_mir id r (k + 1)]; rfl
theorem plc_mir (l:List Od) (id:Int):plc (l.map mO) id = plc l id:=plcF_mir id l 0
theorem hit_mir (l:List Od) (k:Nat) (o:Od) (q:Int):az (l.map mO) k (mO o) q = (az l k o q).map mO:=by
 rw [az,az]
 show (if o.left = q then _ else _) = _
 split
 ·rw [List.map_append,List.map_take,List.map_drop]
 ·rw [List.map_set]; rfl
structure CmM (c d:Cm):Prop where
 k:d.k = c.k
 t:d.t = c.t
 l:d.l = c.l
 q:d.q = c.q
 i:d.i = c.i
 g:d.g = c.g
 s:c.k = 1→d.s = 3 - c.s
 m:c.k = 1→c.t = 2→d.p = c.p
 p:c.k = 1→c.t ≠ 2→tkOk c.p = true∧tkOk d.p = true∧tk d.p = 800 - tk c.p
 o:c.k ≠ 1→d = c
theorem oth_mir {s:Int} (h:s = 1 ∨ s = 2):othS (3 - s) = 3 - othS s:=by rcases h with rfl | rfl <;> rfl
theorem oth_side {s:Int}:othS s = 1 ∨ othS s = 2:=by rw [othS]; split <;> simp
theorem meet_mir {c d:Cm} (h:CmM c d) (hk:c.k = 1) (hs:c.s = 1 ∨ c.s = 2) (o:Od):aO d (mO o) = aO c o:=by
 rw [aO,aO,h.t,h.s hk]
 by_cases ht:c.t = 2
 ·rw [if_pos ht,if_pos ht]
 ·rw [if_neg ht,if_neg ht,(h.p hk ht).2.2]
  show (if 3 - c.s = 1 then decide (800 - o.ticks ≤ 800 - tk c.p) else decide (800 - tk c.p ≤ 800 - o.ticks)) = _
  rcases hs with hs | hs
  ·rw [hs,if_neg (by decide),if_pos rfl]
   by_cases Q:o.ticks ≤ tk c.p
   ·rw [decide_eq_true Q,decide_eq_true (by omega)]
   ·rw [decide_eq_false Q,decide_eq_false (by omega)]
  ·rw [hs,if_pos (by decide),if_neg (by decide)]
   by_cases Q:tk c.p ≤ o.ticks
   ·rw [decide_eq_true Q,decide_eq_true (by omega)]
   ·rw [decide_eq_false Q,decide_eq_false (by omega)]
structure EvM (e f:Ev):Prop where
 kind:f.kind = e.kind
 id:f.id = e.id
 other:f.other = e.other
 qty:f.qty = e.qty
 reason:f.reason = e.reason
 price:e.kind = 3→e.price + f.price = 800
def EsM:List Ev→List Ev→Prop
 | [],[]=>True
 | e :: es,f :: fs=>EvM e f∧EsM es fs
 | _,_=>False
theorem esM_len:∀ {a b:List Ev},EsM a b→b.length = a.length
 | [],[],_=>rfl
 | _ :: _,_ :: _,h=>by simpa using esM_len h.2
 | [],_ :: _,h=>h.elim
 | _ :: _,[],h=>h.elim
theorem esM_app:∀ {a b c d:List Ev},EsM a b→EsM c d→EsM (a ++ c) (b ++ d)
 | [],[],_,_,_,h=>h
 | _ :: _,_ :: _,_,_,h,k=>⟨h.1,esM_app h.2 k⟩
 | [],_ :: _,_,_,h,_=>h.elim
 | _ :: _,[],_,_,h,_=>h.elim
theorem evM_self {e:Ev} (h:e.kind ≠ 3):EvM e e:=⟨rfl,rfl,rfl,rfl,rfl,fun k=>absurd k h⟩
theorem esM_self:∀ {es:List Ev},(∀ e ∈ es,e.kind ≠ 3)→EsM es es
 | [],_=>True.intro
 | e :: es,h=>⟨evM_self (h e (by simp)),esM_self fun x hx=>h x (by simp [hx])⟩
theorem mat_mir {c d:Cm} (h:CmM c d) (hk:c.k = 1) (hs:c.s = 1 ∨ c.s = 2) (id:Int):∀ (n:Nat) (l:List Od) (left:Int) (ts us:List Ev),GoodL l→0 ≤ left→left ≤ 1000000→EsM ts us →
  (matL d id n (l.map mO) left us).1 = (matL c id n l left ts).1.map mO∧(matL d id n (l.map mO) left us).2.1 = (matL c id n l left ts).2.1∧EsM (matL c id n l left ts).2.2 (matL d id n (l.map mO) left us).2.2
 | 0,l,left,ts,us,hg,h0,Q,ht=>⟨rfl,rfl,ht⟩
 | n + 1,l,left,ts,us,hg,h0,Q,ht=>by
  rw [matL,matL]
  by_cases hl:0 < left
  ·rw [if_pos hl,if_pos hl,h.s hk,oth_mir hs,front_mir l oth_side]
   cases hf:aJ l (othS c.s) with
   | none=>exact ⟨rfl,rfl,ht⟩
   | some o =>
    simp only [Option.map_some]
    rw [meet_mir h hk hs]
    by_cases hm:aO c o = true
    ·rw [if_pos hm,if_pos hm]
     obtain ⟨vn,_⟩:=de hf
     obtain ⟨k,hki⟩:=List.getElem?_of_mem vn
     have Z:=hg.left o vn
     have e1:plc (l.map mO) (mO o).id = plc l o.id:=plc_mir l o.id
     rw [e1,plc_at hg.rise hki,Int.toNat_natCast]
     have e2:(mO o).left = o.left:=rfl
     rw [e2,hit_mir]
     exact mat_mir h hk hs id n _ _ _ _ (cM hg hki (by omega) (by omega)).1 (by omega) (by omega) (esM_app ht ⟨⟨rfl,rfl,rfl,rfl,rfl,fun _=>by show o.ticks + (800 - o.ticks) = 800; omega⟩,True.intro⟩)
    ·rw [if_neg hm,if_neg hm]; exact ⟨rfl,rfl,ht⟩
  ·rw [if_neg hl,if_neg hl]; exact ⟨rfl,rfl,ht⟩
end Go.Proofs.YtdliebbfcmdmaaaGreat
