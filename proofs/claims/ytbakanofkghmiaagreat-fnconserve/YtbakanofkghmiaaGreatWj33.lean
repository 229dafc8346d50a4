/-
  A right book stays right, whatever command is done. No function walked.
-/
import Derived.Test.YtbakanofkghmiaaGreatWj27
import Derived.Test.YtbakanofkghmiaaGreatWj32
set_option linter.unusedVariables false
set_option maxHeartbeats 6400000
set_option maxRecDepth 100000
namespace Go.Proofs.YtbakanofkghmiaaGreat
open Go.RowKit
structure OkB (n:Int) (l:List Od):Prop where
 n1:1 ≤ n
 n2:n ≤ 1000000
 len:l.length ≤ 20
 ord:∀ o ∈ l,ordB o = true
 rise:aV l
 id0:∀ o ∈ l,0 < o.id
 ids:∀ o ∈ l,o.id < n
 lev:nlev l ≤ 8
 nox:∀ a ∈ l,a.side = 1→∀ b ∈ l,b.side = 2→a.ticks < b.ticks
theorem okB_start:OkB 1 []:=⟨by omega,by omega,by simp,by simp,List.Pairwise.nil,by simp,by simp,by simp [nlev,nlevR],by simp⟩
theorem ord_side {o:Od} (h:ordB o = true):o.side = 1 ∨ o.side = 2:=by
 simp [ordB,betB] at h; omega
theorem cW {o:Od} (h:ordB o = true):0 < o.left∧o.left ≤ 1000000:=by
 simp [ordB,betB] at h; omega
theorem okB_good {n:Int} {l:List Od} (h:OkB n l):GoodL l:=⟨h.len,fun o Z=>cW (h.ord o Z),h.rise⟩
theorem ord_set {o:Od} (h:ordB o = true) {q:Int} (G:0 < q) (E:q ≤ 1000000):ordB { o with left:=q } = true:=by
 simp only [ordB,xe] at h ⊢
 exact ⟨h.1,by simp [betB]; omega⟩
theorem nodup_len:∀ {xm B:List Int},xm.Nodup→(∀ x ∈ xm,x ∈ B)→xm.length ≤ B.length
 | [],B,_,_=>by simp
 | a :: xm,B,h,hs=>by
  obtain ⟨G,E⟩:=List.nodup_cons.1 h
  have ha:=hs a (by simp)
  have:=nodup_len (B:=B.erase a) E (fun x hx=>(List.mem_erase_of_ne (show x ≠ a from fun e=>G (e ▸ hx))).2 (hs x (by simp [hx])))
  rw [List.length_erase_of_mem ha] at this
  have:=List.length_pos_of_mem ha
  simp; omega
theorem isT_nodup {s:Bool} {seq:List Od} {T:List Int} (h:IsT s seq T):T.Nodup:=h.sorted.imp (fun {a b} hab e=>by subst e; exact cD _ _ hab)
theorem nlev_sub {l l':List Od} (hs:∀ o ∈ l,o.side = 1 ∨ o.side = 2) (h:∀ x ∈ l',∃ o ∈ l,o.side = x.side∧o.ticks = x.ticks):nlev l' ≤ nlev l:=by
 have hs':∀ o ∈ l',o.side = 1 ∨ o.side = 2:=fun x hx=>by obtain ⟨o,G,E,_⟩:=h x hx; rw [← E]; exact hs o G
 rw [nlev_eq hs (bG true _) (bG false _),nlev_eq hs' (bG true _) (bG false _)]
 have e:∀ (s:Bool) (sd:Int),(tks s (zx l' sd)).length ≤ (tks s (zx l sd)).length:=fun s sd=>by
  refine nodup_len (isT_nodup (bG s _)) (fun k hk=>?_)
  obtain ⟨x,hx,rfl⟩:=((bG s (zx l' sd)).mem k).1 hk
  obtain ⟨hx1,hx2⟩:=List.mem_filter.1 hx
  obtain ⟨o,G,E,h3⟩:=h x hx1
  exact ((bG s (zx l sd)).mem _).2 ⟨o,List.mem_filter.2 ⟨G,by simpa [E] using hx2⟩,h3⟩
 have:=e true 1
 have:=e false 2
 omega
theorem okB_less {n:Int} {l l':List Od} (h:OkB n l) (hl:l'.length ≤ 20) (hr:aV l') (hm:∀ x ∈ l',∃ o ∈ l,∃ q,0 < q∧q ≤ 1000000∧x = { o with left:=q }):OkB n l':=by
 have hm':∀ x ∈ l',∃ o ∈ l,o.side = x.side∧o.ticks = x.ticks:=fun x hx=>by obtain ⟨o,G,q,_,_,rfl⟩:=hm x hx; exact ⟨o,G,rfl,rfl⟩
 refine ⟨h.n1,h.n2,hl,fun x hx=>?_,hr,fun x hx=>?_,fun x hx=>?_,yN (nlev_sub (fun o Z=>ord_side (h.ord o Z)) hm') h.lev,fun a ha G b F E=>?_⟩
 ·obtain ⟨o,G,q,E,h3,rfl⟩:=hm x hx; exact ord_set (h.ord o G) E h3
 ·obtain ⟨o,G,q,E,h3,rfl⟩:=hm x hx; exact h.id0 o G
 ·obtain ⟨o,G,q,E,h3,rfl⟩:=hm x hx; exact h.ids o G
 ·obtain ⟨o,k1,k2,k3⟩:=hm' a ha
  obtain ⟨p,m1,m2,m3⟩:=hm' b F
  have:=h.nox o k1 (k2.trans G) p m1 (m2.trans E)
  omega
theorem okB_hit {n:Int} {l:List Od} (h:OkB n l) {k:Nat} {o:Od} (hk:l[k]? = some o) {q:Int} (h0:0 ≤ q) (G:q ≤ o.left):OkB n (aN l k o q):=by
 have hg:=(cJ (okB_good h) hk h0 G).1
 have Z:=yO hk
 have jr:=cW (h.ord o Z)
 refine okB_less h hg.len hg.rise (fun x hx=>?_)
 rw [aN] at hx
 split at hx
 ·have hx':x ∈ l:=by
   rcases List.mem_append.1 hx with E | E
   ·exact List.mem_of_mem_take E
   ·exact List.mem_of_mem_drop E
  have:=cW (h.ord x hx')
  exact ⟨x,hx',x.left,this.1,this.2,rfl⟩
 ·next xB =>
  rcases List.mem_or_eq_of_mem_set hx with E | rfl
  ·have:=cW (h.ord x E)
   exact ⟨x,E,x.left,this.1,this.2,rfl⟩
  ·exact ⟨o,Z,o.left - q,by omega,by omega,rfl⟩
theorem okB_mat {n:Int} {c:Cm} {id:Int}:∀ (k:Nat) (l:List Od) (left:Int) (ts:List Ev),OkB n l→0 ≤ left→left ≤ 1000000→OkB n (matL c id k l left ts).1
 | 0,l,left,ts,h,h0,G=>h
 | k + 1,l,left,ts,h,h0,G=>by
  rw [matL]
  by_cases hl:0 < left
  ·rw [if_pos hl]
   cases hf:aU l (othS c.s) with
   | none=>exact h
   | some o =>
    simp only
    by_cases hm:aZ c o = true
    ·rw [if_pos hm]
     obtain ⟨uy,_⟩:=dd hf
     obtain ⟨i,hi⟩:=List.getElem?_of_mem uy
     have Z:=cW (h.ord o uy)
     rw [plc_at h.rise hi,Int.toNat_natCast]
     exact okB_mat k _ _ _ (okB_hit h hi (by omega) (by omega)) (by omega) (by omega)
    ·rw [if_neg hm]; exact h
  ·rw [if_neg hl]; exact h
theorem mat_stop {c:Cm} {id:Int}:∀ (k:Nat) (l:List Od) (left:Int) (ts:List Ev),GoodL l→0 ≤ left→left ≤ 1000000→l.length < k→0 < (matL c id k l left ts).2.1→∀ o,aU (matL c id k l left ts).1 (othS c.s) = some o→aZ c o = false
 | 0,l,left,ts,h,h0,G,hk=>by omega
 | k + 1,l,left,ts,h,h0,G,hk=>by
  rw [matL]
  by_cases hl:0 < left
  ·rw [if_pos hl]
   cases hf:aU l (othS c.s) with
   | none=>intro _ o Z; simp only at Z; rw [hf] at Z; cases Z
   | some p =>
    simp only
    by_cases hm:aZ c p = true
    ·rw [if_pos hm]
     obtain ⟨uy,_⟩:=dd hf
     obtain ⟨i,hi⟩:=List.getElem?_of_mem uy
     have Z:=h.left p uy
     rw [plc_at h.rise hi,Int.toNat_natCast]
     obtain ⟨g1,g2⟩:=cJ h hi (qty:=min left p.left) (by omega) (by omega)
     rcases g2 with g2 | ⟨g2,g3⟩
     ·exact mat_stop k _ _ _ g1 (by omega) (by omega) (by omega)
     ·intro qu
      exfalso
      have:left - min left p.left = 0:=by omega
      rw [this,matL_end (by omega)] at qu
      simp at qu
    ·rw [if_neg hm]; intro _ o Z; simp only at Z; rw [hf] at Z
     obtain rfl:=ya Z
     simpa using hm
  ·rw [if_neg hl]; intro qu; exact absurd qu hl
theorem far_meet {c:Cm} {l:List Od} (hr:aV l) (ht:c.t ≠ 2) (hs:c.s = 1 ∨ c.s = 2) (h:∀ o,aU l (othS c.s) = some o→aZ c o = false):∀ o ∈ l,o.side = othS c.s→(c.s = 1→tk c.p < o.ticks)∧(c.s = 2→o.ticks < tk c.p):=by
 intro x hx uD
 rcases front_head (s:=decide (othS c.s = 1)) hr (sd:=othS c.s) with ⟨_,G⟩ | ⟨i,o,G,E⟩
 ·exact absurd uD (G x hx)
 ·have hm:=h o G
  obtain ⟨j,K⟩:=List.getElem?_of_mem hx
  rw [aZ,if_neg ht] at hm
  have F:x = o ∨ ahd (decide (othS c.s = 1)) o x:=by
   by_cases hji:j = i
   ·subst hji; rw [E.1] at K; exact .inl (Option.some.inj K).symm
   ·exact .inr (E.2.2 j x K uD hji)
  rcases hs with hs | hs
  ·refine ⟨fun _=>?_,fun e=>by omega⟩
   rw [if_pos hs] at hm
   have hm':¬ o.ticks ≤ tk c.p:=by simpa using hm
   have Z:othS c.s = 2:=by simp [othS,hs]
   rw [Z] at F
   rcases F with rfl | F
   ·omega
   ·rcases F with F | F
    ·simp only [bt] at F; simp at F; omega
    ·omega
  ·refine ⟨fun e=>by omega,fun _=>?_⟩
   rw [if_neg (by omega)] at hm
   have hm':¬ tk c.p ≤ o.ticks:=by simpa using hm
   have Z:othS c.s = 1:=by simp [othS,hs]
   rw [Z] at F
   rcases F with rfl | F
   ·omega
   ·rcases F with F | F
    ·simp only [bt] at F; simp at F; omega
    ·omega
theorem okB_add {n:Int} {l:List Od} {o:Od} (h:OkB n l) (hn:n ≠ 1000000) (hi:o.id = n) (Z:ordB o = true) (hf:bp (l ++ [o]) = false) (hx:∀ x ∈ l,x.side ≠ o.side→(o.side = 1→o.ticks < x.ticks)∧(o.side = 2→x.ticks < o.ticks)):OkB (n + 1) (l ++ [o]):=by
 have hn1:=h.n1
 have hn2:=h.n2
 have uD:∀ x ∈ l ++ [o],x.side = 1 ∨ x.side = 2:=fun x hx=>by
  rcases List.mem_append.1 hx with G | G
  ·exact ord_side (h.ord x G)
  ·rw [List.mem_singleton.1 G]; exact ord_side Z
 rw [full_eq h.len uD,fullS] at hf
 simp only [Bool.or_eq_false_iff,decide_eq_false_iff_not] at hf
 have hl:=h.len
 have pZ:∀ x ∈ l ++ [o],x ∈ l ∨ x = o:=fun x hx=>by
  rcases List.mem_append.1 hx with G | G
  ·exact .inl G
  ·exact .inr (List.mem_singleton.1 G)
 refine ⟨by omega,by omega,by simp; omega,fun x hx=>?_,?_,fun x hx=>?_,fun x hx=>?_,by omega,fun a ha G b F E=>?_⟩
 ·rcases pZ x hx with G | rfl
  ·exact h.ord x G
  ·exact Z
 ·refine List.pairwise_append.2 ⟨h.rise,List.pairwise_singleton _ _,fun a ha b F=>?_⟩
  rw [List.mem_singleton.1 F,hi]; exact h.ids a ha
 ·rcases pZ x hx with G | rfl
  ·exact h.id0 x G
  ·omega
 ·rcases pZ x hx with G | rfl
  ·have:=h.ids x G; omega
  ·omega
 ·rcases pZ a ha with k1 | rfl
  ·rcases pZ b F with k2 | rfl
   ·exact h.nox a k1 G b k2 E
   ·exact (hx a k1 (by omega)).2 E
  ·rcases pZ b F with k2 | rfl
   ·exact (hx b k2 (by omega)).1 G
   ·omega
theorem okB_step {n:Int} {l:List Od} {c:Cm} (h:OkB n l) (hp:PrW c.p):OkB (stN n l c) (stL n l c):=by
 rw [stN,stL]
 by_cases h0:refR n l c = 0
 ·rw [if_pos h0]
  by_cases hk:c.k = 1
  ·rw [if_pos ⟨h0,hk⟩,if_pos hk]
   rw [refR,if_pos hk] at h0
   split at h0
   ·rw [newR] at h0
    have e:betB c.s 1 2 = true∧betB c.t 1 5 = true∧lifW c = false∧prcB c = true∧betB c.q 1 1000000 = true∧tagB c.g = true∧matR n c (matL c n 21 l c.q []) = 0:=by
     revert h0
     cases G:betB c.s 1 2
     ·intro h; cases h
     cases E:betB c.t 1 5
     ·intro h; cases h
     cases h3:lifW c
     ·cases h4:prcB c
      ·intro h; cases h
      cases h5:betB c.q 1 1000000
      ·intro h; cases h
      cases h6:tagB c.g
      ·intro h; cases h
      intro h
      exact ⟨rfl,rfl,rfl,rfl,rfl,rfl,h⟩
     ·intro h; cases h
    obtain ⟨G,E,h3,h4,h5,h6,h7⟩:=e
    have hq:1 ≤ c.q∧c.q ≤ 1000000:=by simpa [betB] using h5
    have hm:=okB_mat (c:=c) (id:=n) 21 l c.q [] h (by omega) hq.2
    have qy:=mat_stop (c:=c) (id:=n) 21 l c.q [] (okB_good h) (by omega) hq.2 (by have:=h.len; omega)
    obtain ⟨-,g1,g2⟩:=cz (c:=c) (id:=n) 21 l c.q [] (okB_good h) (by omega) hq.2
    generalize matL c n 21 l c.q [] = hb at h7 hm qy g1 g2 ⊢
    rw [matR] at h7
    have hn:n ≠ 1000000:=fun e=>by
     by_cases a1:c.t = 5∧0 < hb.2.2.length
     ·rw [if_pos a1] at h7; cases h7
     ·rw [if_neg a1] at h7
      by_cases a2:c.t = 4∧0 < hb.2.1
      ·rw [if_pos a2] at h7; cases h7
      ·rw [if_neg a2,if_pos e] at h7; cases h7
    have hn2:=h.n2
    rw [accL]
    by_cases hr:0 < hb.2.1∧aO c.t = true
    ·rw [if_pos hr]
     have hf:bp (hb.1 ++ [⟨n,c.s,tk c.p,hb.2.1,c.l,c.g⟩]) = false:=by
      cases hff:bp (hb.1 ++ [⟨n,c.s,tk c.p,hb.2.1,c.l,c.g⟩])
      ·rfl
      ·exfalso
       have hff':bp (hb.1 ++ [{ ordO c n with left:=hb.2.1 }]) = true:=hff
       revert h7
       split
       ·intro h; cases h
       split
       ·intro h; cases h
       rw [if_pos ⟨hr.2,hr.1⟩]
       intro h; cases h
     have ht:c.t = 1 ∨ c.t = 5:=by simpa [aO] using hr.2
     have hs:c.s = 1 ∨ c.s = 2:=by simp [betB] at G; omega
     have oY:tkOk c.p = true:=by rw [prcB,if_neg (by omega)] at h4; exact h4
     obtain ⟨p1,p2⟩:=hp oY
     have hl:betB c.l 0 1 = true:=by
      rw [lifW] at h3
      cases F:betB c.l 0 1
      ·rw [F] at h3; simp at h3
      ·rfl
     have hfar:=far_meet (c:=c) hm.rise (by omega) hs (qy hr.1)
     refine okB_add hm hn rfl ?_ hf (fun x hx xB=>?_)
     ·simp only [ordB,G,hl,h6,Bool.true_and,Bool.and_true,xe]
      simp [betB]; omega
     ·have hxs:=ord_side (hm.ord x hx)
      have hne':x.side ≠ c.s:=xB
      have Z:x.side = othS c.s:=by rw [othS]; split <;> omega
      exact hfar x hx Z
    ·rw [if_neg hr]
     exact ⟨by have:=hm.n1; omega,by omega,hm.len,hm.ord,hm.rise,hm.id0,fun o Z=>by have:=hm.ids o Z; omega,hm.lev,hm.nox⟩
   ·cases h0
  ·rw [if_neg (fun e=>hk e.2),if_neg hk]
   by_cases E:c.k = 2
   ·rw [if_pos E]
    cases Z:l[(plc l c.i).toNat]? with
    | none=>exact h
    | some o =>
     have:=cW (h.ord o (yO Z))
     exact okB_hit h Z (by omega) (Int.le_refl _)
   ·rw [if_neg E]
    by_cases h3:c.k = 3
    ·rw [if_pos h3]
     cases Z:l[(plc l c.i).toNat]? with
     | none=>exact h
     | some o =>
      rw [refR,if_neg hk,if_neg E,if_pos h3] at h0
      have hq:betB c.q 1 1000000 = true:=by
       split at h0
       ·rw [redR] at h0
        cases F:betB c.q 1 1000000
        ·rw [F] at h0; cases h0
        ·rfl
       ·cases h0
      have hq':1 ≤ c.q∧c.q ≤ 1000000:=by simpa [betB] using hq
      have hom:=yO Z
      refine okB_less h (by simp; exact h.len) ?_ (fun x hx=>?_)
      ·have hmap:(l.set (plc l c.i).toNat { o with left:=c.q }).map Od.id = l.map Od.id:=by
        rw [List.map_set]
        show (l.map Od.id).set _ o.id = _
        apply List.ext_getElem? 
        intro j
        by_cases K:(plc l c.i).toNat = j
        ·subst K
         rw [List.getElem?_set_self (by simp; exact (yG.1 Z).1),List.getElem?_map,Z]; rfl
        ·rw [yW K]
       have hr:=h.rise
       rw [aV,← List.pairwise_map (f:=Od.id) (R:=fun a b=>a < b)] at hr ⊢
       rw [hmap]; exact hr
      ·rcases List.mem_or_eq_of_mem_set hx with h4 | rfl
       ·have:=cW (h.ord x h4)
        exact ⟨x,h4,x.left,this.1,this.2,rfl⟩
       ·exact ⟨o,hom,c.q,by omega,hq'.2,rfl⟩
    ·rw [if_neg h3]
     refine okB_less h (yN (List.length_filter_le _ _) h.len) (h.rise.filter _) (fun x hx=>?_)
     have hx':=(List.mem_filter.1 hx).1
     have:=cW (h.ord x hx')
     exact ⟨x,hx',x.left,this.1,this.2,rfl⟩
 ·rw [if_neg h0,if_neg (fun e=>h0 e.1)]; exact h
theorem okB_run (cs:List Cm) (hp:∀ c ∈ cs,PrW c.p):∀ k,k ≤ cs.length→OkB (runS (cs.take k)).n (runS (cs.take k)).l:=by
 intro k
 induction k with
 | zero=>intro _; exact okB_start
 | succ k ih =>
  intro hk
  obtain ⟨c,hc⟩:∃ c,cs[k]? = some c:=⟨_,yH (by omega)⟩
  rw [cM cs hc]
  exact okB_step (ih (by omega)) (hp c (yO hc))
end Go.Proofs.YtbakanofkghmiaaGreat
namespace Go.Proofs.YtbakanofkghmiaaGreat
open Go.RowKit Ieee
set_option linter.unusedVariables false

theorem tkOk_nan {x:Nat} (h:nanB x = true):tkOk x = false:=by
 cases hk:tkOk x
 ·rfl
 exfalso
 have G:=(nan_iff x).1 h
 have e:FloatKind.f64.format.order x 0 = none:=by
  show (double.read x).order (double.read 0) = none
  cases hx:double.read x with
  | nan s f=>rfl
  | infinity s=>rw [hx] at G; simp [Datum.isNaN] at G
  | number s m i=>rw [hx] at G; simp [Datum.isNaN] at G
 rw [tkOk,e] at hk
 simp at hk
theorem fbit_none' {x:Nat} (h:nanB x = true):fbit x = 9221120237041090560:=by rw [fbit,if_pos h]
theorem prcB_nan {c:Cm} (h:nanB c.p = true):prcB c = false:=by
 rw [prcB]
 split
 ·rw [fbit_none' h]; rfl
 ·exact tkOk_nan h
theorem cmEq_cases {c d:Cm} (h:CmEq c d):c = d ∨ (nanB c.p = true∧nanB d.p = true):=by
 obtain ⟨k,s,t,l,q,i,p,g⟩:=c
 obtain ⟨k',s',t',l',q',i',p',g'⟩:=d
 obtain ⟨rfl,rfl,rfl,rfl,rfl,rfl,hp,rfl⟩:=h
 rcases hp with e | h
 ·left
  have e:p = p':=e
  rw [e]
 ·exact .inr h
theorem newR_nan {n:Int} {l:List Od} {c:Cm} (h:nanB c.p = true):newR n l c = if betB c.s 1 2 = false then 3 else if betB c.t 1 5 = false then 4 else if lifW c = true then 5 else 6:=by
 rw [newR,prcB_nan h,if_pos rfl]
theorem refR_nan {n:Int} {l:List Od} {c:Cm} (h:nanB c.p = true) :
  refR n l c = if c.k = 1 then (if c.i = 0 then (if betB c.s 1 2 = false then 3 else if betB c.t 1 5 = false then 4 else if lifW c = true then 5 else 6) else 2) else if c.k = 2 then 2 else if c.k = 3 then 2 else if c.k = 4 then 2 else 1:=by
 have hz:fbit 0 = 0:=by decide +kernel
 have hn:(fbit 0 == fbit c.p) = false:=by rw [hz,fbit_none' h]; rfl
 rw [refR]
 by_cases G:c.k = 1
 ·rw [if_pos G,if_pos G,newR_nan h]
  have e:aP ⟨1,c.s,c.t,c.l,c.q,0,c.p,c.g⟩ c = decide (c.i = 0):=by
   rw [aP]
   simp only [G,beq_self_eq_true,Bool.true_and,decide_true,Bool.and_true]
   by_cases hi:c.i = 0
   ·rw [hi]; rfl
   ·rw [decide_eq_false hi]
    simpa using fun e=>hi e.symm
  rw [e]
  by_cases hi:c.i = 0
  ·rw [if_pos (by simpa using hi),if_pos hi]
  ·rw [if_neg (by simpa using hi),if_neg hi]
 ·rw [if_neg G,if_neg G]
  have e:∀ a b:Int,∀ k2:Int,∀ g,aP ⟨k2,0,0,0,a,b,0,g⟩ c = false:=fun a b k2 g=>by
   rw [aP]
   simp only [hn,Bool.false_and,Bool.and_false]
  rw [e,e,e]
  simp only [if_neg Bool.false_ne_true]
theorem refR_nz {n:Int} {l:List Od} {c:Cm} (h:nanB c.p = true):refR n l c ≠ 0:=by
 rw [refR_nan h]
 repeat' split
 all_goals decide
structure EvEq (e f:Ev):Prop where
 kind:e.kind = f.kind
 cmd:CmEq e.cmd f.cmd
 id:e.id = f.id
 other:e.other = f.other
 qty:e.qty = f.qty
 price:e.price = f.price
 reason:e.reason = f.reason
theorem cmEq_refl (c:Cm):CmEq c c:=⟨rfl,rfl,rfl,rfl,rfl,rfl,.inl rfl,rfl⟩
theorem evEq_refl (e:Ev):EvEq e e:=⟨rfl,cmEq_refl _,rfl,rfl,rfl,rfl,rfl⟩
theorem pEq_sym {a b:Nat} (h:PEq a b):PEq b a:=by
 rcases h with rfl | ⟨G,E⟩
 ·exact .inl rfl
 ·exact .inr ⟨E,G⟩
theorem pEq_trans {a b c:Nat} (h:PEq a b) (k:PEq b c):PEq a c:=by
 rcases h with rfl | ⟨G,E⟩
 ·exact k
 ·rcases k with rfl | ⟨k1,k2⟩
  ·exact .inr ⟨G,E⟩
  ·exact .inr ⟨G,k2⟩
theorem cmEq_sym {c d:Cm} (h:CmEq c d):CmEq d c:=⟨h.k.symm,h.s.symm,h.t.symm,h.l.symm,h.q.symm,h.i.symm,pEq_sym h.p,h.g.symm⟩
theorem cmEq_trans {c d e:Cm} (h:CmEq c d) (k:CmEq d e):CmEq c e:=⟨h.k.trans k.k,h.s.trans k.s,h.t.trans k.t,h.l.trans k.l,h.q.trans k.q,h.i.trans k.i,pEq_trans h.p k.p,h.g.trans k.g⟩
theorem csEq_sym:∀ {cs ds:List Cm},CsEq cs ds→CsEq ds cs
 | [],[],_=>True.intro
 | _ :: _,_ :: _,h=>⟨cmEq_sym h.1,csEq_sym h.2⟩
 | [],_ :: _,h=>h.elim
 | _ :: _,[],h=>h.elim
theorem csEq_trans:∀ {cs ds es:List Cm},CsEq cs ds→CsEq ds es→CsEq cs es
 | [],[],[],_,_=>True.intro
 | _ :: _,_ :: _,_ :: _,h,k=>⟨cmEq_trans h.1 k.1,csEq_trans h.2 k.2⟩
 | [],_ :: _,_,h,_=>h.elim
 | _ :: _,[],_,h,_=>h.elim
 | [],[],_ :: _,_,k=>k.elim
 | _ :: _,_ :: _,[],_,k=>k.elim
def EsEq:List Ev→List Ev→Prop
 | [],[]=>True
 | c :: cs,d :: ds=>EvEq c d∧EsEq cs ds
 | _,_=>False
def GsEq:List (List Ev)→List (List Ev)→Prop
 | [],[]=>True
 | c :: cs,d :: ds=>EsEq c d∧GsEq cs ds
 | _,_=>False
theorem esEq_refl:∀ es:List Ev,EsEq es es
 | []=>True.intro
 | e :: es=>⟨evEq_refl e,esEq_refl es⟩
theorem esEq_len:∀ {cs ds:List Ev},EsEq cs ds→cs.length = ds.length
 | [],[],_=>rfl
 | _ :: _,_ :: _,h=>by simpa using esEq_len h.2
 | [],_ :: _,h=>h.elim
 | _ :: _,[],h=>h.elim
theorem gsEq_len:∀ {cs ds:List (List Ev)},GsEq cs ds→cs.length = ds.length
 | [],[],_=>rfl
 | _ :: _,_ :: _,h=>by simpa using gsEq_len h.2
 | [],_ :: _,h=>h.elim
 | _ :: _,[],h=>h.elim
theorem esEq_at:∀ {cs ds:List Ev},EsEq cs ds→∀ (k:Nat) (c:Ev),cs[k]? = some c→∃ d,ds[k]? = some d∧EvEq c d
 | [],[],_,_,_,e=>by simp at e
 | a :: _,b :: _,h,0,c,e=>⟨b,rfl,by simp at e; rw [← e]; exact h.1⟩
 | _ :: cs,_ :: ds,h,k + 1,c,e=>esEq_at h.2 k c (by simpa using e)
 | [],_ :: _,h,_,_,_=>h.elim
 | _ :: _,[],h,_,_,_=>h.elim
theorem gsEq_at:∀ {cs ds:List (List Ev)},GsEq cs ds→∀ (k:Nat) (c:List Ev),cs[k]? = some c→∃ d,ds[k]? = some d∧EsEq c d
 | [],[],_,_,_,e=>by simp at e
 | a :: _,b :: _,h,0,c,e=>⟨b,rfl,by simp at e; rw [← e]; exact h.1⟩
 | _ :: cs,_ :: ds,h,k + 1,c,e=>gsEq_at h.2 k c (by simpa using e)
 | [],_ :: _,h,_,_,_=>h.elim
 | _ :: _,[],h,_,_,_=>h.elim
theorem gsEq_snoc:∀ {cs ds:List (List Ev)} {c d:List Ev},GsEq cs ds→EsEq c d→GsEq (cs ++ [c]) (ds ++ [d])
 | [],[],_,_,_,e=>⟨e,True.intro⟩
 | _ :: _,_ :: _,_,_,h,e=>⟨h.1,gsEq_snoc h.2 e⟩
 | [],_ :: _,_,_,h,_=>h.elim
 | _ :: _,[],_,_,h,_=>h.elim
theorem evEq_sym {e f:Ev} (h:EvEq e f):EvEq f e:=⟨h.kind.symm,cmEq_sym h.cmd,h.id.symm,h.other.symm,h.qty.symm,h.price.symm,h.reason.symm⟩
theorem esEq_sym:∀ {cs ds:List Ev},EsEq cs ds→EsEq ds cs
 | [],[],_=>True.intro
 | _ :: _,_ :: _,h=>⟨evEq_sym h.1,esEq_sym h.2⟩
 | [],_ :: _,h=>h.elim
 | _ :: _,[],h=>h.elim
theorem gsEq_sym:∀ {cs ds:List (List Ev)},GsEq cs ds→GsEq ds cs
 | [],[],_=>True.intro
 | _ :: _,_ :: _,h=>⟨esEq_sym h.1,gsEq_sym h.2⟩
 | [],_ :: _,h=>h.elim
 | _ :: _,[],h=>h.elim
theorem step_eq {n:Int} {l:List Od} {c d:Cm} (h:CmEq c d):stN n l c = stN n l d∧stL n l c = stL n l d∧EsEq (stE n l c) (stE n l d):=by
 rcases cmEq_cases h with rfl | ⟨hc,hd⟩
 ·exact ⟨rfl,rfl,esEq_refl _⟩
 ·have zc:=refR_nz (n:=n) (l:=l) hc
  have zd:=refR_nz (n:=n) (l:=l) hd
  have e:refR n l c = refR n l d:=by
   rw [refR_nan hc,refR_nan hd,h.k,h.i,h.s,h.t]
   have:lifW c = lifW d:=by rw [lifW,lifW,h.l,h.t]
   rw [this]
  refine ⟨?_,?_,?_⟩
  ·rw [stN,stN,if_neg (fun x=>zc x.1),if_neg (fun x=>zd x.1)]
  ·rw [stL,stL,if_neg zc,if_neg zd]
  ·rw [stE,stE,if_neg zc,if_neg zd,e]
   exact ⟨⟨rfl,⟨h.k,h.s,h.t,h.l,h.q,h.i,h.p,by show cutB c.g = cutB d.g; rw [h.g]⟩,rfl,rfl,rfl,rfl,rfl⟩,True.intro⟩
theorem cnt_eq {t:Tot} {e f:Ev} (h:EvEq e f):cntE t e = cntE t f:=by
 unfold cntE
 rw [h.kind,h.qty,h.price]
theorem wg_eq:∀ {es fs:List Ev} (t:Tot),EsEq es fs→wgT t es = wgT t fs:=by
 have e:∀ {es fs:List Ev} (t:Tot),EsEq es fs→es.foldl cntE t = fs.foldl cntE t:=by
  intro es
  induction es with
  | nil=>intro fs t h; cases fs with | nil=>rfl | cons=>exact h.elim
  | cons a es ih=>intro fs t h; cases fs with
   | nil=>exact h.elim
   | cons b fs=>rw [List.foldl_cons,List.foldl_cons,cnt_eq h.1]; exact ih _ h.2
 intro es fs t h
 unfold wgT
 rw [e _ h]
structure RsEq (s u:RunSt):Prop where
 n:s.n = u.n
 l:s.l = u.l
 g:GsEq s.g u.g
 t:s.t = u.t
theorem rstep_eq {s u:RunSt} {c d:Cm} (h:RsEq s u) (hc:CmEq c d):RsEq (rstep s c) (rstep u d):=by
 obtain ⟨n,l,g,t⟩:=s
 obtain ⟨n',l',g',t'⟩:=u
 obtain ⟨rfl,rfl,hg,rfl⟩:=h
 obtain ⟨e1,e2,e3⟩:=step_eq (n:=n) (l:=l) hc
 exact ⟨e1,e2,gsEq_snoc hg e3,wg_eq _ e3⟩
theorem fold_eq:∀ {cs ds:List Cm} {s u:RunSt},CsEq cs ds→RsEq s u→RsEq (cs.foldl rstep s) (ds.foldl rstep u)
 | [],[],_,_,_,h=>h
 | c :: cs,d :: ds,s,u,hc,h=>by rw [List.foldl_cons,List.foldl_cons]; exact fold_eq (cs:=cs) (ds:=ds) hc.2 (rstep_eq h hc.1)
 | [],_ :: _,_,_,hc,_=>hc.elim
 | _ :: _,[],_,_,hc,_=>hc.elim
theorem run_eq {cs ds:List Cm} (h:CsEq cs ds):RsEq (rsF cs) (rsF ds):=by
 have e:RsEq (runS cs) (runS ds):=fold_eq h ⟨rfl,rfl,True.intro,rfl⟩
 rw [rsF,rsF,csEq_len h]
 split
 ·exact ⟨e.n,e.l,e.g,by show wbT (runS cs).t (runS cs).l = wbT (runS ds).t (runS ds).l; rw [e.t,e.l]⟩
 ·exact ⟨rfl,rfl,True.intro,rfl⟩
end Go.Proofs.YtbakanofkghmiaaGreat
