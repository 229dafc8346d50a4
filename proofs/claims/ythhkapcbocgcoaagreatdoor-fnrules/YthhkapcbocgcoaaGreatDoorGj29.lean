/-
  A right book stays right, whatever command is done. No function walked.
-/
import Derived.Test.YthhkapcbocgcoaaGreatDoorGj28
set_option linter.unusedVariables false
set_option maxHeartbeats 6400000
set_option maxRecDepth 100000
namespace Go.Proofs.YthhkapcbocgcoaaGreatDoor
open Go.RowKit
structure OkB (n:Int) (l:List Od):Prop where
 n1:1 ≤ n
 n2:n ≤ 1000000
 len:l.length ≤ 20
 ord:∀ o ∈ l,ordB o = true
 rise:cy l
 id0:∀ o ∈ l,0 < o.id
 ids:∀ o ∈ l,o.id < n
 lev:nlev l ≤ 8
 nox:∀ a ∈ l,a.side = 1→∀ b ∈ l,b.side = 2→a.ticks < b.ticks
theorem okB_ok {n:Int} {l:List Od} (h:OkB n l):okS n l = true:=by
 have Q:=allR_of l 0 (fun o Y=>⟨h.ord o Y,h.id0 o Y,h.ids o Y⟩) h.rise (next:=n)
 have D:=(noX_iff l).2 h.nox
 have X:betB n 1 1000000 = true:=by have:=h.n1; have:=h.n2; simp [betB]; omega
 rw [okS,Q,D,X,decide_eq_true h.len,decide_eq_true h.lev]; rfl
theorem okB_tags {n:Int} {l:List Od} (h:OkB n l):∀ o ∈ l,o.tag.size ≤ maxLen:=fun o Y=>by
 have:=h.ord o Y
 simp only [ordB,tagB,xf,xg] at this
 have Q:=this.1.1.2.1
 unfold maxLen; omega
theorem okB_start:OkB 1 []:=⟨by omega,by omega,by simp,by simp,List.Pairwise.nil,by simp,by simp,by simp [nlev,nlevR],by simp⟩
theorem ord_side {o:Od} (h:ordB o = true):o.side = 1 ∨ o.side = 2:=by
 simp [ordB,betB] at h; omega
theorem eI {o:Od} (h:ordB o = true):0 < o.left∧o.left ≤ 1000000:=by
 simp [ordB,betB] at h; omega
theorem fI {n:Int} {l:List Od} (h:OkB n l):GoodL l:=⟨h.len,fun o Y=>eI (h.ord o Y),h.rise⟩
theorem ord_set {o:Od} (h:ordB o = true) {q:Int} (Q:0 < q) (D:q ≤ 1000000):ordB { o with left:=q } = true:=by
 simp only [ordB,xf] at h ⊢
 exact ⟨h.1,by simp [betB]; omega⟩
theorem nodup_len:∀ {hb B:List Int},hb.Nodup→(∀ x ∈ hb,x ∈ B)→hb.length ≤ B.length
 | [],B,_,_=>by simp
 | a :: hb,B,h,hs=>by
  obtain ⟨Q,D⟩:=List.nodup_cons.1 h
  have ha:=hs a (by simp)
  have:=nodup_len (B:=B.erase a) D (fun x hx=>(List.mem_erase_of_ne (show x ≠ a from fun e=>Q (e ▸ hx))).2 (hs x (by simp [hx])))
  rw [List.length_erase_of_mem ha] at this
  have:=List.length_pos_of_mem ha
  simp; omega
theorem isT_nodup {s:Bool} {seq:List Od} {T:List Int} (h:IsT s seq T):T.Nodup:=h.sorted.imp (fun {a b} hab e=>by subst e; exact eg _ _ hab)
theorem nlev_sub {l l':List Od} (hs:∀ o ∈ l,o.side = 1 ∨ o.side = 2) (h:∀ x ∈ l',∃ o ∈ l,o.side = x.side∧o.ticks = x.ticks):nlev l' ≤ nlev l:=by
 have hs':∀ o ∈ l',o.side = 1 ∨ o.side = 2:=fun x hx=>by obtain ⟨o,Q,D,_⟩:=h x hx; rw [← D]; exact hs o Q
 rw [nlev_eq hs (cV true _) (cV false _),nlev_eq hs' (cV true _) (cV false _)]
 have e:∀ (s:Bool) (sd:Int),(tks s (zr l' sd)).length ≤ (tks s (zr l sd)).length:=fun s sd=>by
  refine nodup_len (isT_nodup (cV s _)) (fun k E=>?_)
  obtain ⟨x,hx,rfl⟩:=((cV s (zr l' sd)).mem k).1 E
  obtain ⟨hx1,oK⟩:=List.mem_filter.1 hx
  obtain ⟨o,Q,D,X⟩:=h x hx1
  exact ((cV s (zr l sd)).mem _).2 ⟨o,List.mem_filter.2 ⟨Q,by simpa [D] using oK⟩,X⟩
 have:=e true 1
 have:=e false 2
 omega
theorem okB_less {n:Int} {l l':List Od} (h:OkB n l) (hl:l'.length ≤ 20) (hr:cy l') (hm:∀ x ∈ l',∃ o ∈ l,∃ q,0 < q∧q ≤ 1000000∧x = { o with left:=q }):OkB n l':=by
 have hm':∀ x ∈ l',∃ o ∈ l,o.side = x.side∧o.ticks = x.ticks:=fun x hx=>by obtain ⟨o,Q,q,_,_,rfl⟩:=hm x hx; exact ⟨o,Q,rfl,rfl⟩
 refine ⟨h.n1,h.n2,hl,fun x hx=>?_,hr,fun x hx=>?_,fun x hx=>?_,yO (nlev_sub (fun o Y=>ord_side (h.ord o Y)) hm') h.lev,fun a ha Q b A D=>?_⟩
 ·obtain ⟨o,Q,q,D,X,rfl⟩:=hm x hx; exact ord_set (h.ord o Q) D X
 ·obtain ⟨o,Q,q,D,X,rfl⟩:=hm x hx; exact h.id0 o Q
 ·obtain ⟨o,Q,q,D,X,rfl⟩:=hm x hx; exact h.ids o Q
 ·obtain ⟨o,k1,k2,k3⟩:=hm' a ha
  obtain ⟨p,m1,m2,m3⟩:=hm' b A
  have:=h.nox o k1 (k2.trans Q) p m1 (m2.trans D)
  omega
theorem okB_hit {n:Int} {l:List Od} (h:OkB n l) {k:Nat} {o:Od} (E:l[k]? = some o) {q:Int} (h0:0 ≤ q) (Q:q ≤ o.left):OkB n (bQ l k o q):=by
 have hg:=(dP (fI h) E h0 Q).1
 have Y:=yP E
 have aU:=eI (h.ord o Y)
 refine okB_less h hg.len hg.rise (fun x hx=>?_)
 rw [bQ] at hx
 split at hx
 ·have hx':x ∈ l:=by
   rcases List.mem_append.1 hx with D | D
   ·exact List.mem_of_mem_take D
   ·exact List.mem_of_mem_drop D
  have:=eI (h.ord x hx')
  exact ⟨x,hx',x.left,this.1,this.2,rfl⟩
 ·next xC =>
  rcases List.mem_or_eq_of_mem_set hx with D | rfl
  ·have:=eI (h.ord x D)
   exact ⟨x,D,x.left,this.1,this.2,rfl⟩
  ·exact ⟨o,Y,o.left - q,by omega,by omega,rfl⟩
theorem okB_mat {n:Int} {c:Cm} {id:Int}:∀ (k:Nat) (l:List Od) (left:Int) (ts:List Ev),OkB n l→0 ≤ left→left ≤ 1000000→OkB n (matL c id k l left ts).1
 | 0,l,left,ts,h,h0,Q=>h
 | k + 1,l,left,ts,h,h0,Q=>by
  rw [matL]
  by_cases hl:0 < left
  ·rw [if_pos hl]
   cases hf:bT l (othS c.s) with
   | none=>exact h
   | some o =>
    simp only
    by_cases hm:cj c o = true
    ·rw [if_pos hm]
     obtain ⟨uC,_⟩:=ek hf
     obtain ⟨i,hi⟩:=List.getElem?_of_mem uC
     have Y:=eI (h.ord o uC)
     rw [dN h.rise hi,Int.toNat_natCast]
     exact okB_mat k _ _ _ (okB_hit h hi (by omega) (by omega)) (by omega) (by omega)
    ·rw [if_neg hm]; exact h
  ·rw [if_neg hl]; exact h
theorem mat_stop {c:Cm} {id:Int}:∀ (k:Nat) (l:List Od) (left:Int) (ts:List Ev),GoodL l→0 ≤ left→left ≤ 1000000→l.length < k→0 < (matL c id k l left ts).2.1→∀ o,bT (matL c id k l left ts).1 (othS c.s) = some o→cj c o = false
 | 0,l,left,ts,h,h0,Q,E=>by omega
 | k + 1,l,left,ts,h,h0,Q,E=>by
  rw [matL]
  by_cases hl:0 < left
  ·rw [if_pos hl]
   cases hf:bT l (othS c.s) with
   | none=>intro _ o Y; simp only at Y; rw [hf] at Y; cases Y
   | some p =>
    simp only
    by_cases hm:cj c p = true
    ·rw [if_pos hm]
     obtain ⟨uC,_⟩:=ek hf
     obtain ⟨i,hi⟩:=List.getElem?_of_mem uC
     have Y:=h.left p uC
     rw [dN h.rise hi,Int.toNat_natCast]
     obtain ⟨g1,g2⟩:=dP h hi (qty:=min left p.left) (by omega) (by omega)
     rcases g2 with g2 | ⟨g2,g3⟩
     ·exact mat_stop k _ _ _ g1 (by omega) (by omega) (by omega)
     ·intro vM
      exfalso
      have:left - min left p.left = 0:=by omega
      rw [this,matL_end (by omega)] at vM
      simp at vM
    ·rw [if_neg hm]; intro _ o Y; simp only at Y; rw [hf] at Y
     obtain rfl:=ya Y
     simpa using hm
  ·rw [if_neg hl]; intro vM; exact absurd vM hl
theorem far_meet {c:Cm} {l:List Od} (hr:cy l) (ht:c.t ≠ 2) (hs:c.s = 1 ∨ c.s = 2) (h:∀ o,bT l (othS c.s) = some o→cj c o = false):∀ o ∈ l,o.side = othS c.s→(c.s = 1→tk c.p < o.ticks)∧(c.s = 2→o.ticks < tk c.p):=by
 intro x hx ui
 rcases fU (s:=decide (othS c.s = 1)) hr (sd:=othS c.s) with ⟨_,Q⟩ | ⟨i,o,Q,D⟩
 ·exact absurd ui (Q x hx)
 ·have hm:=h o Q
  obtain ⟨j,hj⟩:=List.getElem?_of_mem hx
  rw [cj,if_neg ht] at hm
  have A:x = o ∨ ahd (decide (othS c.s = 1)) o x:=by
   by_cases hji:j = i
   ·subst hji; rw [D.1] at hj; exact .inl (Option.some.inj hj).symm
   ·exact .inr (D.2.2 j x hj ui hji)
  rcases hs with hs | hs
  ·refine ⟨fun _=>?_,fun e=>by omega⟩
   rw [if_pos hs] at hm
   have hm':¬ o.ticks ≤ tk c.p:=by simpa using hm
   have Y:othS c.s = 2:=by simp [othS,hs]
   rw [Y] at A
   rcases A with rfl | A
   ·omega
   ·rcases A with A | A
    ·simp only [bt] at A; simp at A; omega
    ·omega
  ·refine ⟨fun e=>by omega,fun _=>?_⟩
   rw [if_neg (by omega)] at hm
   have hm':¬ tk c.p ≤ o.ticks:=by simpa using hm
   have Y:othS c.s = 1:=by simp [othS,hs]
   rw [Y] at A
   rcases A with rfl | A
   ·omega
   ·rcases A with A | A
    ·simp only [bt] at A; simp at A; omega
    ·omega
theorem okB_add {n:Int} {l:List Od} {o:Od} (h:OkB n l) (hn:n ≠ 1000000) (hi:o.id = n) (Y:ordB o = true) (hf:cY (l ++ [o]) = false) (hx:∀ x ∈ l,x.side ≠ o.side→(o.side = 1→o.ticks < x.ticks)∧(o.side = 2→x.ticks < o.ticks)):OkB (n + 1) (l ++ [o]):=by
 have hn1:=h.n1
 have hn2:=h.n2
 have ui:∀ x ∈ l ++ [o],x.side = 1 ∨ x.side = 2:=fun x hx=>by
  rcases List.mem_append.1 hx with Q | Q
  ·exact ord_side (h.ord x Q)
  ·rw [List.mem_singleton.1 Q]; exact ord_side Y
 rw [full_eq h.len ui,fullS] at hf
 simp only [Bool.or_eq_false_iff,decide_eq_false_iff_not] at hf
 have hl:=h.len
 have key:∀ x ∈ l ++ [o],x ∈ l ∨ x = o:=fun x hx=>by
  rcases List.mem_append.1 hx with Q | Q
  ·exact .inl Q
  ·exact .inr (List.mem_singleton.1 Q)
 refine ⟨by omega,by omega,by simp; omega,fun x hx=>?_,?_,fun x hx=>?_,fun x hx=>?_,by omega,fun a ha Q b A D=>?_⟩
 ·rcases key x hx with Q | rfl
  ·exact h.ord x Q
  ·exact Y
 ·refine List.pairwise_append.2 ⟨h.rise,List.pairwise_singleton _ _,fun a ha b A=>?_⟩
  rw [List.mem_singleton.1 A,hi]; exact h.ids a ha
 ·rcases key x hx with Q | rfl
  ·exact h.id0 x Q
  ·omega
 ·rcases key x hx with Q | rfl
  ·have:=h.ids x Q; omega
  ·omega
 ·rcases key a ha with k1 | rfl
  ·rcases key b A with k2 | rfl
   ·exact h.nox a k1 Q b k2 D
   ·exact (hx a k1 (by omega)).2 D
  ·rcases key b A with k2 | rfl
   ·exact (hx b k2 (by omega)).1 Q
   ·omega
theorem okB_step {n:Int} {l:List Od} {c:Cm} (h:OkB n l) (hp:PrW c.p):OkB (stN n l c) (stL n l c):=by
 rw [stN,stL]
 by_cases h0:refR n l c = 0
 ·rw [if_pos h0]
  by_cases E:c.k = 1
  ·rw [if_pos ⟨h0,E⟩,if_pos E]
   rw [refR,if_pos E] at h0
   split at h0
   ·rw [newR] at h0
    have e:betB c.s 1 2 = true∧betB c.t 1 5 = true∧lifW c = false∧prcB c = true∧betB c.q 1 1000000 = true∧tagB c.g = true∧matR n c (matL c n 21 l c.q []) = 0:=by
     revert h0
     cases Q:betB c.s 1 2
     ·intro h; cases h
     cases D:betB c.t 1 5
     ·intro h; cases h
     cases X:lifW c
     ·cases h4:prcB c
      ·intro h; cases h
      cases h5:betB c.q 1 1000000
      ·intro h; cases h
      cases h6:tagB c.g
      ·intro h; cases h
      intro h
      exact ⟨rfl,rfl,rfl,rfl,rfl,rfl,h⟩
     ·intro h; cases h
    obtain ⟨Q,D,X,h4,h5,h6,h7⟩:=e
    have hq:1 ≤ c.q∧c.q ≤ 1000000:=by simpa [betB] using h5
    have hm:=okB_mat (c:=c) (id:=n) 21 l c.q [] h (by omega) hq.2
    have vd:=mat_stop (c:=c) (id:=n) 21 l c.q [] (fI h) (by omega) hq.2 (by have:=h.len; omega)
    obtain ⟨-,g1,g2⟩:=eF (c:=c) (id:=n) 21 l c.q [] (fI h) (by omega) hq.2
    generalize matL c n 21 l c.q [] = hR at h7 hm vd g1 g2 ⊢
    rw [matR] at h7
    have hn:n ≠ 1000000:=fun e=>by
     by_cases a1:c.t = 5∧0 < hR.2.2.length
     ·rw [if_pos a1] at h7; cases h7
     ·rw [if_neg a1] at h7
      by_cases a2:c.t = 4∧0 < hR.2.1
      ·rw [if_pos a2] at h7; cases h7
      ·rw [if_neg a2,if_pos e] at h7; cases h7
    have hn2:=h.n2
    rw [accL]
    by_cases hr:0 < hR.2.1∧bR c.t = true
    ·rw [if_pos hr]
     have hf:cY (hR.1 ++ [⟨n,c.s,tk c.p,hR.2.1,c.l,c.g⟩]) = false:=by
      cases hff:cY (hR.1 ++ [⟨n,c.s,tk c.p,hR.2.1,c.l,c.g⟩])
      ·rfl
      ·exfalso
       have hff':cY (hR.1 ++ [{ ordO c n with left:=hR.2.1 }]) = true:=hff
       revert h7
       split
       ·intro h; cases h
       split
       ·intro h; cases h
       rw [if_pos ⟨hr.2,hr.1⟩]
       intro h; cases h
     have ht:c.t = 1 ∨ c.t = 5:=by simpa [bR] using hr.2
     have hs:c.s = 1 ∨ c.s = 2:=by simp [betB] at Q; omega
     have hpk:tkOk c.p = true:=by rw [prcB,if_neg (by omega)] at h4; exact h4
     obtain ⟨p1,p2⟩:=hp hpk
     have hl:betB c.l 0 1 = true:=by
      rw [lifW] at X
      cases A:betB c.l 0 1
      ·rw [A] at X; simp at X
      ·rfl
     have hfar:=far_meet (c:=c) hm.rise (by omega) hs (vd hr.1)
     refine okB_add hm hn rfl ?_ hf (fun x hx xC=>?_)
     ·simp only [ordB,Q,hl,h6,Bool.true_and,Bool.and_true,xf]
      simp [betB]; omega
     ·have hxs:=ord_side (hm.ord x hx)
      have hne':x.side ≠ c.s:=xC
      have Y:x.side = othS c.s:=by rw [othS]; split <;> omega
      exact hfar x hx Y
    ·rw [if_neg hr]
     exact ⟨by have:=hm.n1; omega,by omega,hm.len,hm.ord,hm.rise,hm.id0,fun o Y=>by have:=hm.ids o Y; omega,hm.lev,hm.nox⟩
   ·cases h0
  ·rw [if_neg (fun e=>E e.2),if_neg E]
   by_cases D:c.k = 2
   ·rw [if_pos D]
    cases Y:l[(plc l c.i).toNat]? with
    | none=>exact h
    | some o =>
     have:=eI (h.ord o (yP Y))
     exact okB_hit h Y (by omega) (Int.le_refl _)
   ·rw [if_neg D]
    by_cases X:c.k = 3
    ·rw [if_pos X]
     cases Y:l[(plc l c.i).toNat]? with
     | none=>exact h
     | some o =>
      rw [refR,if_neg E,if_neg D,if_pos X] at h0
      have hq:betB c.q 1 1000000 = true:=by
       split at h0
       ·rw [redR] at h0
        cases A:betB c.q 1 1000000
        ·rw [A] at h0; cases h0
        ·rfl
       ·cases h0
      have hq':1 ≤ c.q∧c.q ≤ 1000000:=by simpa [betB] using hq
      have hom:=yP Y
      refine okB_less h (by simp; exact h.len) ?_ (fun x hx=>?_)
      ·have hmap:(l.set (plc l c.i).toNat { o with left:=c.q }).map Od.id = l.map Od.id:=by
        rw [List.map_set]
        show (l.map Od.id).set _ o.id = _
        apply List.ext_getElem? 
        intro j
        by_cases hj:(plc l c.i).toNat = j
        ·subst hj
         rw [List.getElem?_set_self (by simp; exact (yH.1 Y).1),List.getElem?_map,Y]; rfl
        ·rw [yX hj]
       have hr:=h.rise
       rw [cy,← List.pairwise_map (f:=Od.id) (R:=fun a b=>a < b)] at hr ⊢
       rw [hmap]; exact hr
      ·rcases List.mem_or_eq_of_mem_set hx with h4 | rfl
       ·have:=eI (h.ord x h4)
        exact ⟨x,h4,x.left,this.1,this.2,rfl⟩
       ·exact ⟨o,hom,c.q,by omega,hq'.2,rfl⟩
    ·rw [if_neg X]
     refine okB_less h (yO (List.length_filter_le _ _) h.len) (h.rise.filter _) (fun x hx=>?_)
     have hx':=(List.mem_filter.1 hx).1
     have:=eI (h.ord x hx')
     exact ⟨x,hx',x.left,this.1,this.2,rfl⟩
 ·rw [if_neg h0,if_neg (fun e=>h0 e.1)]; exact h
theorem okB_run (cs:List Cm) (hp:∀ c ∈ cs,PrW c.p):∀ k,k ≤ cs.length→OkB (runS (cs.take k)).n (runS (cs.take k)).l:=by
 intro k
 induction k with
 | zero=>intro _; exact okB_start
 | succ k ih =>
  intro E
  obtain ⟨c,hc⟩:∃ c,cs[k]? = some c:=⟨_,yI (by omega)⟩
  rw [run_step cs hc]
  exact okB_step (ih (by omega)) (hp c (yP hc))
def cutC (c:Cm):Cm:=⟨c.k,c.s,c.t,c.l,c.q,c.i,c.p,cutB c.g⟩
theorem cutC_short {c:Cm} (h:c.g.size ≤ 12):cutC c = c:=by
 have e:cutB c.g = c.g:=by unfold cutB; rw [if_neg (by omega)]
 unfold cutC; rw [e]
theorem cut_long {s:ByteArray} (h:12 < s.size):(cutB s).size = 13:=by
 unfold cutB; rw [if_pos h]; simp; omega
theorem toList_len0 {s:ByteArray} (h:12 < s.size):s.toList ≠ []:=fun e=>by
 have Q:s.toList = s.data.toList:=Go.ByteArray.toList_eq s
 rw [Q] at e
 have D:s.data.toList.length = 0:=by rw [e]; rfl
 have X:s.data.toList.length = s.size:=by rw [Array.length_toList]; rfl
 omega
theorem refR_long {n:Int} {l:List Od} {c:Cm} (h:12 < c.g.size) :
  refR n l c = if c.k = 1 then (if c.i = 0 then (if betB c.s 1 2 = false then 3 else if betB c.t 1 5 = false then 4 else if lifW c = true then 5 else if prcB c = false then 6 else if betB c.q 1 1000000 = false then 7 else 8) else 2) else if c.k = 2 then 2 else if c.k = 3 then 2 else if c.k = 4 then 2 else 1:=by
 have hg:decide (([]:List UInt8) = c.g.toList) = false:=decide_eq_false fun e=>toList_len0 h e.symm
 have hz:(⟨#[]⟩:ByteArray).toList = []:=by decide +kernel
 rw [refR]
 by_cases Q:c.k = 1
 ·rw [if_pos Q,if_pos Q]
  have e:bS ⟨1,c.s,c.t,c.l,c.q,0,c.p,c.g⟩ c = decide (c.i = 0):=by
   rw [bS]
   simp only [Q,beq_self_eq_true,Bool.true_and,decide_true,Bool.and_true]
   by_cases hi:c.i = 0
   ·rw [hi]; rfl
   ·rw [decide_eq_false hi]
    simpa using fun e=>hi e.symm
  rw [e]
  have en:newR n l c = if betB c.s 1 2 = false then 3 else if betB c.t 1 5 = false then 4 else if lifW c = true then 5 else if prcB c = false then 6 else if betB c.q 1 1000000 = false then 7 else 8:=by
   rw [newR,tag_long _ (by omega),if_pos rfl]
  rw [en]
  by_cases hi:c.i = 0
  ·rw [if_pos (by simpa using hi),if_pos hi]
  ·rw [if_neg (by simpa using hi),if_neg hi]
 ·rw [if_neg Q,if_neg Q]
  have e:∀ a b:Int,∀ k2:Int,bS ⟨k2,0,0,0,a,b,0,⟨#[]⟩⟩ c = false:=fun a b k2=>by
   rw [bS]
   simp only [hz,hg,Bool.and_false]
  rw [e,e,e]
  simp only [if_neg Bool.false_ne_true]
theorem refR_cut {n:Int} {l:List Od} (c:Cm):refR n l (cutC c) = refR n l c:=by
 by_cases h:12 < c.g.size
 ·have D:12 < (cutC c).g.size:=by show 12 < (cutB c.g).size; rw [cut_long h]; decide
  rw [refR_long h,refR_long D]
  rfl
 ·rw [cutC_short (by omega)]
theorem form1 {n:Int} {l:List Od} {c:Cm} (h:refR n l c = 0) (E:c.k = 1):c = ⟨1,c.s,c.t,c.l,c.q,0,c.p,c.g⟩:=by
 rw [refR,if_pos E] at h
 have e:bS ⟨1,c.s,c.t,c.l,c.q,0,c.p,c.g⟩ c = true:=by
  cases hs:bS ⟨1,c.s,c.t,c.l,c.q,0,c.p,c.g⟩ c
  ·rw [hs] at h; cases h
  ·rfl
 rw [bS] at e
 simp only [xf,beq_iff_eq] at e
 obtain ⟨k,s,t,l',q,i,p,g⟩:=c
 simp only at E e ⊢
 rw [E,← e.2.2.2.2.2.1]
theorem same_self (c:Cm):bS c c = true:=by
 rw [bS]; simp
theorem toldCan {n:Int} {l:List Od} {c:Cm} (h:refR n l c = 0) (E:c.k = 2):refR n l ⟨2,0,0,0,0,c.i,0,⟨#[]⟩⟩ = 0:=by
 rw [refR,if_neg (by omega),if_pos E] at h
 rw [refR,if_neg (by show ¬ (2:Int) = 1; decide),if_pos (by rfl),if_pos (same_self _)]
 split at h
 ·exact h
 ·cases h
theorem toldRed {n:Int} {l:List Od} {c:Cm} (h:refR n l c = 0) (E:c.k = 3):refR n l ⟨3,0,0,0,c.q,c.i,0,⟨#[]⟩⟩ = 0:=by
 rw [refR,if_neg (by omega),if_neg (by omega),if_pos E] at h
 rw [refR,if_neg (by show ¬ (3:Int) = 1; decide),if_neg (by show ¬ (3:Int) = 2; decide),if_pos (by rfl),if_pos (same_self _)]
 split at h
 ·exact h
 ·cases h
theorem toldDay (n:Int) (l:List Od):refR n l ⟨4,0,0,0,0,0,0,⟨#[]⟩⟩ = 0:=by
 rw [refR,if_neg (by show ¬ (4:Int) = 1; decide),if_neg (by show ¬ (4:Int) = 2; decide),if_neg (by show ¬ (4:Int) = 3; decide),if_pos (by rfl),if_pos (same_self _)]
end Go.Proofs.YthhkapcbocgcoaaGreatDoor
