/-
  A right book stays right, whatever command is done. No function walked.
-/
import Derived.Test.YtbakanofkghmiaaGreatUj47
set_option linter.unusedVariables false
set_option maxHeartbeats 6400000
set_option maxRecDepth 100000
namespace Go.Proofs.YtbakanofkghmiaaGreat
open Go.RowKit
structure OkB (n:Int) (l:List Od):Prop where
 n1:1 ≤ n
 n2:n ≤ 1000000
 len:l.length ≤ 20
 ord:∀ o ∈ l,ordB o = true
 rise:aK l
 id0:∀ o ∈ l,0 < o.id
 ids:∀ o ∈ l,o.id < n
 lev:nlev l ≤ 8
 nox:∀ a ∈ l,a.side = 1→∀ b ∈ l,b.side = 2→a.ticks < b.ticks
theorem okB_ok {n:Int} {l:List Od} (h:OkB n l):okS n l = true:=by
 have G:=allR_of l 0 (fun o Z=>⟨h.ord o Z,h.id0 o Z,h.ids o Z⟩) h.rise (next:=n)
 have D:=(noX_iff l).2 h.nox
 have h3:betB n 1 1000000 = true:=by have:=h.n1; have:=h.n2; simp [betB]; omega
 rw [okS,G,D,h3,decide_eq_true h.len,decide_eq_true h.lev]; rfl
theorem okB_tags {n:Int} {l:List Od} (h:OkB n l):∀ o ∈ l,o.tag.size ≤ maxLen:=fun o Z=>by
 have:=h.ord o Z
 simp only [ordB,tagB,xc,xd] at this
 have G:=this.1.1.2.1
 unfold maxLen; omega
theorem okB_start:OkB 1 []:=⟨by omega,by omega,by simp,by simp,List.Pairwise.nil,by simp,by simp,by simp [nlev,nlevR],by simp⟩
theorem ord_side {o:Od} (h:ordB o = true):o.side = 1 ∨ o.side = 2:=by
 simp [ordB,betB] at h; omega
theorem cI {o:Od} (h:ordB o = true):0 < o.left∧o.left ≤ 1000000:=by
 simp [ordB,betB] at h; omega
theorem okB_good {n:Int} {l:List Od} (h:OkB n l):GoodL l:=⟨h.len,fun o Z=>cI (h.ord o Z),h.rise⟩
theorem ord_set {o:Od} (h:ordB o = true) {q:Int} (G:0 < q) (D:q ≤ 1000000):ordB { o with left:=q } = true:=by
 simp only [ordB,xc] at h ⊢
 exact ⟨h.1,by simp [betB]; omega⟩
theorem nodup_len:∀ {xj B:List Int},xj.Nodup→(∀ x ∈ xj,x ∈ B)→xj.length ≤ B.length
 | [],B,_,_=>by simp
 | a :: xj,B,h,hs=>by
  obtain ⟨G,D⟩:=List.nodup_cons.1 h
  have ha:=hs a (by simp)
  have:=nodup_len (B:=B.erase a) D (fun x hx=>(List.mem_erase_of_ne (show x ≠ a from fun e=>G (e ▸ hx))).2 (hs x (by simp [hx])))
  rw [List.length_erase_of_mem ha] at this
  have:=List.length_pos_of_mem ha
  simp; omega
theorem isT_nodup {s:Bool} {seq:List Od} {T:List Int} (h:IsT s seq T):T.Nodup:=h.sorted.imp (fun {a b} hab e=>by subst e; exact bV _ _ hab)
theorem nlev_sub {l l':List Od} (hs:∀ o ∈ l,o.side = 1 ∨ o.side = 2) (h:∀ x ∈ l',∃ o ∈ l,o.side = x.side∧o.ticks = x.ticks):nlev l' ≤ nlev l:=by
 have hs':∀ o ∈ l',o.side = 1 ∨ o.side = 2:=fun x hx=>by obtain ⟨o,G,D,_⟩:=h x hx; rw [← D]; exact hs o G
 rw [nlev_eq hs (aZ true _) (aZ false _),nlev_eq hs' (aZ true _) (aZ false _)]
 have e:∀ (s:Bool) (sd:Int),(tks s (zo l' sd)).length ≤ (tks s (zo l sd)).length:=fun s sd=>by
  refine nodup_len (isT_nodup (aZ s _)) (fun k hk=>?_)
  obtain ⟨x,hx,rfl⟩:=((aZ s (zo l' sd)).mem k).1 hk
  obtain ⟨hx1,hx2⟩:=List.mem_filter.1 hx
  obtain ⟨o,G,D,h3⟩:=h x hx1
  exact ((aZ s (zo l sd)).mem _).2 ⟨o,List.mem_filter.2 ⟨G,by simpa [D] using hx2⟩,h3⟩
 have:=e true 1
 have:=e false 2
 omega
theorem okB_less {n:Int} {l l':List Od} (h:OkB n l) (hl:l'.length ≤ 20) (hr:aK l') (hm:∀ x ∈ l',∃ o ∈ l,∃ q,0 < q∧q ≤ 1000000∧x = { o with left:=q }):OkB n l':=by
 have hm':∀ x ∈ l',∃ o ∈ l,o.side = x.side∧o.ticks = x.ticks:=fun x hx=>by obtain ⟨o,G,q,_,_,rfl⟩:=hm x hx; exact ⟨o,G,rfl,rfl⟩
 refine ⟨h.n1,h.n2,hl,fun x hx=>?_,hr,fun x hx=>?_,fun x hx=>?_,yL (nlev_sub (fun o Z=>ord_side (h.ord o Z)) hm') h.lev,fun a ha G b O D=>?_⟩
 ·obtain ⟨o,G,q,D,h3,rfl⟩:=hm x hx; exact ord_set (h.ord o G) D h3
 ·obtain ⟨o,G,q,D,h3,rfl⟩:=hm x hx; exact h.id0 o G
 ·obtain ⟨o,G,q,D,h3,rfl⟩:=hm x hx; exact h.ids o G
 ·obtain ⟨o,k1,k2,k3⟩:=hm' a ha
  obtain ⟨p,m1,m2,m3⟩:=hm' b O
  have:=h.nox o k1 (k2.trans G) p m1 (m2.trans D)
  omega
theorem okB_hit {n:Int} {l:List Od} (h:OkB n l) {k:Nat} {o:Od} (hk:l[k]? = some o) {q:Int} (h0:0 ≤ q) (G:q ≤ o.left):OkB n (aB l k o q):=by
 have hg:=(cG (okB_good h) hk h0 G).1
 have Z:=yM hk
 have jn:=cI (h.ord o Z)
 refine okB_less h hg.len hg.rise (fun x hx=>?_)
 rw [aB] at hx
 split at hx
 ·have hx':x ∈ l:=by
   rcases List.mem_append.1 hx with D | D
   ·exact List.mem_of_mem_take D
   ·exact List.mem_of_mem_drop D
  have:=cI (h.ord x hx')
  exact ⟨x,hx',x.left,this.1,this.2,rfl⟩
 ·next xA =>
  rcases List.mem_or_eq_of_mem_set hx with D | rfl
  ·have:=cI (h.ord x D)
   exact ⟨x,D,x.left,this.1,this.2,rfl⟩
  ·exact ⟨o,Z,o.left - q,by omega,by omega,rfl⟩
theorem okB_mat {n:Int} {c:Cm} {id:Int}:∀ (k:Nat) (l:List Od) (left:Int) (ts:List Ev),OkB n l→0 ≤ left→left ≤ 1000000→OkB n (matL c id k l left ts).1
 | 0,l,left,ts,h,h0,G=>h
 | k + 1,l,left,ts,h,h0,G=>by
  rw [matL]
  by_cases hl:0 < left
  ·rw [if_pos hl]
   cases hf:aI l (othS c.s) with
   | none=>exact h
   | some o =>
    simp only
    by_cases hm:aN c o = true
    ·rw [if_pos hm]
     obtain ⟨uZ,_⟩:=cT hf
     obtain ⟨i,hi⟩:=List.getElem?_of_mem uZ
     have Z:=cI (h.ord o uZ)
     rw [plc_at h.rise hi,Int.toNat_natCast]
     exact okB_mat k _ _ _ (okB_hit h hi (by omega) (by omega)) (by omega) (by omega)
    ·rw [if_neg hm]; exact h
  ·rw [if_neg hl]; exact h
theorem mat_stop {c:Cm} {id:Int}:∀ (k:Nat) (l:List Od) (left:Int) (ts:List Ev),GoodL l→0 ≤ left→left ≤ 1000000→l.length < k→0 < (matL c id k l left ts).2.1→∀ o,aI (matL c id k l left ts).1 (othS c.s) = some o→aN c o = false
 | 0,l,left,ts,h,h0,G,hk=>by omega
 | k + 1,l,left,ts,h,h0,G,hk=>by
  rw [matL]
  by_cases hl:0 < left
  ·rw [if_pos hl]
   cases hf:aI l (othS c.s) with
   | none=>intro _ o Z; simp only at Z; rw [hf] at Z; cases Z
   | some p =>
    simp only
    by_cases hm:aN c p = true
    ·rw [if_pos hm]
     obtain ⟨uZ,_⟩:=cT hf
     obtain ⟨i,hi⟩:=List.getElem?_of_mem uZ
     have Z:=h.left p uZ
     rw [plc_at h.rise hi,Int.toNat_natCast]
     obtain ⟨g1,g2⟩:=cG h hi (qty:=min left p.left) (by omega) (by omega)
     rcases g2 with g2 | ⟨g2,g3⟩
     ·exact mat_stop k _ _ _ g1 (by omega) (by omega) (by omega)
     ·intro qm
      exfalso
      have:left - min left p.left = 0:=by omega
      rw [this,matL_end (by omega)] at qm
      simp at qm
    ·rw [if_neg hm]; intro _ o Z; simp only at Z; rw [hf] at Z
     obtain rfl:=ya Z
     simpa using hm
  ·rw [if_neg hl]; intro qm; exact absurd qm hl
theorem far_meet {c:Cm} {l:List Od} (hr:aK l) (ht:c.t ≠ 2) (hs:c.s = 1 ∨ c.s = 2) (h:∀ o,aI l (othS c.s) = some o→aN c o = false):∀ o ∈ l,o.side = othS c.s→(c.s = 1→tk c.p < o.ticks)∧(c.s = 2→o.ticks < tk c.p):=by
 intro x hx uC
 rcases dJ (s:=decide (othS c.s = 1)) hr (sd:=othS c.s) with ⟨_,G⟩ | ⟨i,o,G,D⟩
 ·exact absurd uC (G x hx)
 ·have hm:=h o G
  obtain ⟨j,K⟩:=List.getElem?_of_mem hx
  rw [aN,if_neg ht] at hm
  have O:x = o ∨ ahd (decide (othS c.s = 1)) o x:=by
   by_cases hji:j = i
   ·subst hji; rw [D.1] at K; exact .inl (Option.some.inj K).symm
   ·exact .inr (D.2.2 j x K uC hji)
  rcases hs with hs | hs
  ·refine ⟨fun _=>?_,fun e=>by omega⟩
   rw [if_pos hs] at hm
   have hm':¬ o.ticks ≤ tk c.p:=by simpa using hm
   have Z:othS c.s = 2:=by simp [othS,hs]
   rw [Z] at O
   rcases O with rfl | O
   ·omega
   ·rcases O with O | O
    ·simp only [bt] at O; simp at O; omega
    ·omega
  ·refine ⟨fun e=>by omega,fun _=>?_⟩
   rw [if_neg (by omega)] at hm
   have hm':¬ tk c.p ≤ o.ticks:=by simpa using hm
   have Z:othS c.s = 1:=by simp [othS,hs]
   rw [Z] at O
   rcases O with rfl | O
   ·omega
   ·rcases O with O | O
    ·simp only [bt] at O; simp at O; omega
    ·omega
theorem okB_add {n:Int} {l:List Od} {o:Od} (h:OkB n l) (hn:n ≠ 1000000) (hi:o.id = n) (Z:ordB o = true) (hf:aV (l ++ [o]) = false) (hx:∀ x ∈ l,x.side ≠ o.side→(o.side = 1→o.ticks < x.ticks)∧(o.side = 2→x.ticks < o.ticks)):OkB (n + 1) (l ++ [o]):=by
 have hn1:=h.n1
 have hn2:=h.n2
 have uC:∀ x ∈ l ++ [o],x.side = 1 ∨ x.side = 2:=fun x hx=>by
  rcases List.mem_append.1 hx with G | G
  ·exact ord_side (h.ord x G)
  ·rw [List.mem_singleton.1 G]; exact ord_side Z
 rw [full_eq h.len uC,fullS] at hf
 simp only [Bool.or_eq_false_iff,decide_eq_false_iff_not] at hf
 have hl:=h.len
 have pO:∀ x ∈ l ++ [o],x ∈ l ∨ x = o:=fun x hx=>by
  rcases List.mem_append.1 hx with G | G
  ·exact .inl G
  ·exact .inr (List.mem_singleton.1 G)
 refine ⟨by omega,by omega,by simp; omega,fun x hx=>?_,?_,fun x hx=>?_,fun x hx=>?_,by omega,fun a ha G b O D=>?_⟩
 ·rcases pO x hx with G | rfl
  ·exact h.ord x G
  ·exact Z
 ·refine List.pairwise_append.2 ⟨h.rise,List.pairwise_singleton _ _,fun a ha b O=>?_⟩
  rw [List.mem_singleton.1 O,hi]; exact h.ids a ha
 ·rcases pO x hx with G | rfl
  ·exact h.id0 x G
  ·omega
 ·rcases pO x hx with G | rfl
  ·have:=h.ids x G; omega
  ·omega
 ·rcases pO a ha with k1 | rfl
  ·rcases pO b O with k2 | rfl
   ·exact h.nox a k1 G b k2 D
   ·exact (hx a k1 (by omega)).2 D
  ·rcases pO b O with k2 | rfl
   ·exact (hx b k2 (by omega)).1 G
   ·omega
theorem okB_step {n:Int} {l:List Od} {c:Cm} (h:OkB n l) (hp:PrW c.p):OkB (stN n l c) (stL n l c):=by
 rw [stN,stL]
 by_cases h0:refR n l c = 0
 ·rw [if_pos h0]
  by_cases hk:c.k = 1
  ·rw [if_pos ⟨h0,hk⟩,if_pos hk]
   rw [refR,if_pos hk] at h0
   split at h0
   ·rw [newR] at h0
    have e:betB c.s 1 2 = true∧betB c.t 1 5 = true∧lifW c = false∧prcB c = true∧betB c.q 1 1000000 = true∧tagB c.g = true∧matR n c (matL c n 21 l c.q []) = 0:=by
     revert h0
     cases G:betB c.s 1 2
     ·intro h; cases h
     cases D:betB c.t 1 5
     ·intro h; cases h
     cases h3:lifW c
     ·cases h4:prcB c
      ·intro h; cases h
      cases h5:betB c.q 1 1000000
      ·intro h; cases h
      cases h6:tagB c.g
      ·intro h; cases h
      intro h
      exact ⟨rfl,rfl,rfl,rfl,rfl,rfl,h⟩
     ·intro h; cases h
    obtain ⟨G,D,h3,h4,h5,h6,h7⟩:=e
    have hq:1 ≤ c.q∧c.q ≤ 1000000:=by simpa [betB] using h5
    have hm:=okB_mat (c:=c) (id:=n) 21 l c.q [] h (by omega) hq.2
    have uO:=mat_stop (c:=c) (id:=n) 21 l c.q [] (okB_good h) (by omega) hq.2 (by have:=h.len; omega)
    obtain ⟨-,g1,g2⟩:=bR (c:=c) (id:=n) 21 l c.q [] (okB_good h) (by omega) hq.2
    generalize matL c n 21 l c.q [] = qt at h7 hm uO g1 g2 ⊢
    rw [matR] at h7
    have hn:n ≠ 1000000:=fun e=>by
     by_cases a1:c.t = 5∧0 < qt.2.2.length
     ·rw [if_pos a1] at h7; cases h7
     ·rw [if_neg a1] at h7
      by_cases a2:c.t = 4∧0 < qt.2.1
      ·rw [if_pos a2] at h7; cases h7
      ·rw [if_neg a2,if_pos e] at h7; cases h7
    have hn2:=h.n2
    rw [accL]
    by_cases hr:0 < qt.2.1∧aC c.t = true
    ·rw [if_pos hr]
     have hf:aV (qt.1 ++ [⟨n,c.s,tk c.p,qt.2.1,c.l,c.g⟩]) = false:=by
      cases hff:aV (qt.1 ++ [⟨n,c.s,tk c.p,qt.2.1,c.l,c.g⟩])
      ·rfl
      ·exfalso
       have hff':aV (qt.1 ++ [{ ordO c n with left:=qt.2.1 }]) = true:=hff
       revert h7
       split
       ·intro h; cases h
       split
       ·intro h; cases h
       rw [if_pos ⟨hr.2,hr.1⟩]
       intro h; cases h
     have ht:c.t = 1 ∨ c.t = 5:=by simpa [aC] using hr.2
     have hs:c.s = 1 ∨ c.s = 2:=by simp [betB] at G; omega
     have oJ:tkOk c.p = true:=by rw [prcB,if_neg (by omega)] at h4; exact h4
     obtain ⟨p1,p2⟩:=hp oJ
     have hl:betB c.l 0 1 = true:=by
      rw [lifW] at h3
      cases O:betB c.l 0 1
      ·rw [O] at h3; simp at h3
      ·rfl
     have hfar:=far_meet (c:=c) hm.rise (by omega) hs (uO hr.1)
     refine okB_add hm hn rfl ?_ hf (fun x hx xA=>?_)
     ·simp only [ordB,G,hl,h6,Bool.true_and,Bool.and_true,xc]
      simp [betB]; omega
     ·have hxs:=ord_side (hm.ord x hx)
      have hne':x.side ≠ c.s:=xA
      have Z:x.side = othS c.s:=by rw [othS]; split <;> omega
      exact hfar x hx Z
    ·rw [if_neg hr]
     exact ⟨by have:=hm.n1; omega,by omega,hm.len,hm.ord,hm.rise,hm.id0,fun o Z=>by have:=hm.ids o Z; omega,hm.lev,hm.nox⟩
   ·cases h0
  ·rw [if_neg (fun e=>hk e.2),if_neg hk]
   by_cases D:c.k = 2
   ·rw [if_pos D]
    cases Z:l[(plc l c.i).toNat]? with
    | none=>exact h
    | some o =>
     have:=cI (h.ord o (yM Z))
     exact okB_hit h Z (by omega) (Int.le_refl _)
   ·rw [if_neg D]
    by_cases h3:c.k = 3
    ·rw [if_pos h3]
     cases Z:l[(plc l c.i).toNat]? with
     | none=>exact h
     | some o =>
      rw [refR,if_neg hk,if_neg D,if_pos h3] at h0
      have hq:betB c.q 1 1000000 = true:=by
       split at h0
       ·rw [redR] at h0
        cases O:betB c.q 1 1000000
        ·rw [O] at h0; cases h0
        ·rfl
       ·cases h0
      have hq':1 ≤ c.q∧c.q ≤ 1000000:=by simpa [betB] using hq
      have hom:=yM Z
      refine okB_less h (by simp; exact h.len) ?_ (fun x hx=>?_)
      ·have hmap:(l.set (plc l c.i).toNat { o with left:=c.q }).map Od.id = l.map Od.id:=by
        rw [List.map_set]
        show (l.map Od.id).set _ o.id = _
        apply List.ext_getElem? 
        intro j
        by_cases K:(plc l c.i).toNat = j
        ·subst K
         rw [List.getElem?_set_self (by simp; exact (yE.1 Z).1),List.getElem?_map,Z]; rfl
        ·rw [yU K]
       have hr:=h.rise
       rw [aK,← List.pairwise_map (f:=Od.id) (R:=fun a b=>a < b)] at hr ⊢
       rw [hmap]; exact hr
      ·rcases List.mem_or_eq_of_mem_set hx with h4 | rfl
       ·have:=cI (h.ord x h4)
        exact ⟨x,h4,x.left,this.1,this.2,rfl⟩
       ·exact ⟨o,hom,c.q,by omega,hq'.2,rfl⟩
    ·rw [if_neg h3]
     refine okB_less h (yL (List.length_filter_le _ _) h.len) (h.rise.filter _) (fun x hx=>?_)
     have hx':=(List.mem_filter.1 hx).1
     have:=cI (h.ord x hx')
     exact ⟨x,hx',x.left,this.1,this.2,rfl⟩
 ·rw [if_neg h0,if_neg (fun e=>h0 e.1)]; exact h
theorem okB_run (cs:List Cm) (hp:∀ c ∈ cs,PrW c.p):∀ k,k ≤ cs.length→OkB (runS (cs.take k)).n (runS (cs.take k)).l:=by
 intro k
 induction k with
 | zero=>intro _; exact okB_start
 | succ k ih =>
  intro hk
  obtain ⟨c,hc⟩:∃ c,cs[k]? = some c:=⟨_,yF (by omega)⟩
  rw [cK cs hc]
  exact okB_step (ih (by omega)) (hp c (yM hc))
theorem er (n:Int) (va vb:Value) (l:List Od) (w:World) (ha:RdR Od.vs 6 w va l) (O:RdR Od.vs 6 w vb l) :
  Calls Tryz.prog 13 #[.agg #[H n,va],.agg #[H n,vb]] w fun e w'=>e = yl (.bool true)∧ym w w':=by
 obtain ⟨aa,ca,rfl,hl,hca⟩:=ha
 obtain ⟨ab,cb,rfl,_,hcb⟩:=O
 have xo:∀ (k:Nat) (c:Od),l[k]? = some c→∃ b off b' ux,aa = some (J b off)∧ab = some (J b' ux)∧b < w.heap.size∧b' < w.heap.size∧w.rangeAt b (off + k * 6) c.vs∧w.rangeAt b' (ux + k * 6) c.vs:=by
  intro k c hk
  have xA:l ≠ []:=by intro h; rw [h] at hk; simp at hk
  obtain ⟨b,off,G,D,h3⟩:=hca xA
  obtain ⟨b',ux,kn,ke,h3'⟩:=hcb xA
  exact ⟨b,off,b',ux,G,kn,D,ke,h3 k c hk,h3' k c hk⟩
 have HC:=Y xo
 clear xo hca hcb
 have G:=eB w (N #[H n,.slice aa l.length ca] 28)
 have x1:=bM w [H n,.slice aa l.length ca] 28
 have s1:=zf w (N #[H n,.slice aa l.length ca] 28)
 have D:Below (w.alloc (N #[H n,.slice aa l.length ca] 28)).heap.size (w.alloc (N #[H n,.slice aa l.length ca] 28)) ((w.alloc (N #[H n,.slice aa l.length ca] 28)).alloc (N #[H n,.slice ab l.length cb] 28)):=eB _ _
 have x2:=bM (w.alloc (N #[H n,.slice aa l.length ca] 28)) [H n,.slice ab l.length cb] 28
 have s2:=zf (w.alloc (N #[H n,.slice aa l.length ca] 28)) (N #[H n,.slice ab l.length cb] 28)
 have x1':=zM x1 D (by rw [s1]; omega)
 have xD:=Y (eE G D)
 rw [s1] at x2 s2
 have HX:Hid (_∧_∧_):=⟨x1',x2,s2⟩
 clear G x1 s1 D x2 s2 x1'
 go_enter Tryz.func13,Tryz.ntmps13
 go_wp2_with fail
 generalize ((w.alloc (N #[H n,.slice aa l.length ca] 28)).alloc (N #[H n,.slice ab l.length cb] 28)) = W2 at xD HX ⊢
 go_loopw [5] (fun i wr=>∃ k:Nat,k ≤ l.length∧i = H k∧ym W2 wr) (fun i _=>l.length - (intOf i).toNat)
 case atStart=>exact ⟨0,Nat.zero_le _,rfl,Below.refl _ _⟩
 case round =>
  obtain ⟨k,hk,rfl,xh⟩:=hrel
  have HB:=Y xh
  obtain ⟨r1,r2,xZ⟩:=U HX
  have d1:=zF (zM r1 xh (by omega)) 1 rfl
  have d2:=zF (zM r2 xh (by omega)) 1 rfl
  clear r1 r2 xh
  by_cases xI:k < l.length
  ·obtain ⟨c,uJ⟩:∃ c,l[k]? = some c:=⟨_,yF xI⟩
   obtain ⟨b,off,b',ux,rfl,rfl,O,ko,X,vP⟩:=U HC k c uJ
   obtain ⟨p0,p1,p2,p3,p4,p5⟩:=zz (zb (zb X (U xD) O) (U HB) (yH O (U xD).size))
   obtain ⟨q0,q1,q2,q3,q4,q5⟩:=zz (zb (zb vP (U xD) ko) (U HB) (yH ko (U xD).size))
   have uu:(k:Int) < l.length:=by omega
   clear uJ X vP O ko
   go_wp2_with fail
   go_quiet (fail)
   go_wp2_with fail
   go_roundw
   case rel=>exact ⟨k + 1,by omega,by go_num,cA (U HB) nq⟩
   case measure=>simp [intOf]; omega
  ·go_wp2_with fail
   go_ret
   exact ⟨rfl,(U xD).trans ((U HB).mono (U xD).size)⟩
theorem kind_two {n:Int} {l:List Od} {c:Cm} {e:Ev} {es:List Ev} (he:stE n l c = e :: es) (hk:e.kind = 2):es = []∧stN n l c = n∧stL n l c = l:=by
 by_cases h0:refR n l c = 0
 ·exfalso
  rw [stE,if_pos h0] at he
  split at he
  ·rw [accE,List.cons_append] at he
   obtain ⟨rfl,_⟩:=List.cons.inj he
   exact absurd hk (show (1:Int) ≠ 2 by decide)
  ·split at he
   ·split at he
    ·obtain ⟨rfl,_⟩:=List.cons.inj he
     exact absurd hk (show (6:Int) ≠ 2 by decide)
    ·cases he
   ·split at he
    ·obtain ⟨rfl,_⟩:=List.cons.inj he
     exact absurd hk (show (7:Int) ≠ 2 by decide)
    ·obtain ⟨rfl,_⟩:=List.cons.inj he
     exact absurd hk (show (8:Int) ≠ 2 by decide)
 ·rw [stE,if_neg h0] at he
  obtain ⟨_,G⟩:=List.cons.inj he
  exact ⟨G.symm,by rw [stN,if_neg (fun h=>h0 h.1)],by rw [stL,if_neg h0]⟩
end Go.Proofs.YtbakanofkghmiaaGreat
