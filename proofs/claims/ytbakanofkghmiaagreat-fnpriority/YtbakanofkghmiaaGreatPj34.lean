/-
  What the types of orders promise, of the groups that a script leads to. No function walked.
-/
import Derived.Test.YtbakanofkghmiaaGreatPj33
set_option linter.unusedVariables false
set_option maxHeartbeats 6400000
set_option maxRecDepth 100000
namespace Go.Proofs.YtbakanofkghmiaaGreat
open Go.RowKit
def sK (kd:Int):List Ev→Int
 | []=>0
 | e :: es=>(if e.kind = kd then e.qty else 0) + sK kd es
theorem dT (kd:Int):∀ a b:List Ev,sK kd (a ++ b) = sK kd a + sK kd b
 | [],b=>by simp [sK]
 | e :: a,b=>by rw [List.cons_append,sK,sK,dT kd a b]; omega
def QtyOk (es:List Ev):Prop:=∀ e ∈ es,0 ≤ e.qty∧e.qty ≤ 1000000
theorem sK_none {kd:Int}:∀ {es:List Ev},(∀ e ∈ es,e.kind = 3)→kd ≠ 3→sK kd es = 0
 | [],_,_=>rfl
 | e :: es,h,hk=>by
  have z:=h e (by simp)
  rw [sK,if_neg (by omega),sK_none (fun x hx=>h x (by simp [hx])) hk]; rfl
theorem matL_sums {c:Cm} {id:Int}:∀ (n:Nat) (l:List Od) (left:Int) (ts:List Ev),GoodL l→0 ≤ left→left ≤ 1000000→(∀ e ∈ ts,e.kind = 3∧0 ≤ e.qty∧e.qty ≤ 1000000) →
  (matL c id n l left ts).2.1 + sK 3 (matL c id n l left ts).2.2 = left + sK 3 ts∧∀ e ∈ (matL c id n l left ts).2.2,e.kind = 3∧0 ≤ e.qty∧e.qty ≤ 1000000
 | 0,l,left,ts,h,h0,z,ht=>⟨rfl,ht⟩
 | n + 1,l,left,ts,h,h0,z,ht=>by
  rw [matL]
  by_cases hl:0 < left
  ·rw [if_pos hl]
   cases hf:aD l (othS c.s) with
   | none=>exact ⟨rfl,ht⟩
   | some o =>
    simp only
    by_cases hm:aI c o = true
    ·rw [if_pos hm]
     obtain ⟨vi,_⟩:=cX hf
     obtain ⟨k,hk⟩:=List.getElem?_of_mem vi
     have Y:=h.left o vi
     rw [plc_at h.rise hk,Int.toNat_natCast]
     obtain ⟨e1,e2⟩:=matL_sums (c:=c) (id:=id) n (zR l k o (min left o.left)) (left - min left o.left) (ts ++ [trE id o.id (min left o.left) o.ticks]) (dd h hk (by omega) (by omega)).1 (by omega) (by omega) (fun e he=>by
      rcases List.mem_append.1 he with he | he
      ·exact ht e he
      ·rw [List.mem_singleton.1 he]
       exact ⟨rfl,by show 0 ≤ min left o.left; omega,by show min left o.left ≤ 1000000; omega⟩)
     refine ⟨?_,e2⟩
     rw [e1,dT]
     have:sK 3 [trE id o.id (min left o.left) o.ticks] = min left o.left:=by simp [sK,trE]
     rw [this]; omega
    ·rw [if_neg hm]; exact ⟨rfl,ht⟩
  ·rw [if_neg hl]; exact ⟨rfl,ht⟩
theorem stE_lenT {next:Int} {l:List Od} {c:Cm} (hg:GoodL l):(stE next l c).length ≤ 100:=by
 have hl:=hg.len
 rw [stE]
 split
 ·split
  ·have z:=matL_few (c:=c) (id:=next) 21 l c.q []
   rw [accE]
   simp only [yM,List.length_cons,List.length_nil] at z ⊢
   split <;> simp <;> omega
  ·split
   ·split <;> simp
   ·split
    ·simp
    ·have z:(l.filter dyB).length ≤ 20:=yK (List.length_filter_le _ _) hl
     simp only [List.length_cons,List.length_map]; omega
 ·simp
def TyOk (c:Cm) (g:List Ev):Prop :=
 ∃ e es,g = e :: es∧g.length ≤ 100∧(e.kind ≠ 1 ∨ (e.kind = 1∧QtyOk g∧1 ≤ c.q∧c.q ≤ 1000000∧sK 3 g + sK 4 g + sK 5 g = c.q∧(c.t = 5→sK 3 g ≤ 0)∧(c.t = 4→sK 3 g = c.q)∧(c.t = 2 ∨ c.t = 3→sK 4 g ≤ 0)∧(c.t = 1 ∨ c.t = 5→sK 5 g ≤ 0)))
theorem ty_acc {n:Int} {l:List Od} {c:Cm} (hg:GoodL l) (h0:refR n l c = 0) (hk:c.k = 1):TyOk c (stE n l c):=by
 have uH:stE n l c = accE c n (matL c n 21 l c.q []):=by rw [stE,if_pos h0,if_pos hk]
 rw [refR,if_pos hk] at h0
 split at h0
 ·rw [newR] at h0
  have hb:betB c.q 1 1000000 = true:=by
   cases hb:betB c.q 1 1000000
   ·exfalso
    revert h0
    rw [hb]
    repeat (split; (intro h; cases h))
    intro _
    simp at *
   ·rfl
  have hq:1 ≤ c.q∧c.q ≤ 1000000:=by simpa [betB] using hb
  have hm:matR n c (matL c n 21 l c.q []) = 0:=by
   revert h0
   repeat (split; (intro h; cases h))
   exact id
  obtain ⟨s1,s2⟩:=matL_sums (c:=c) (id:=n) 21 l c.q [] hg (by omega) hq.2 (by simp)
  obtain ⟨-,g1,g2⟩:=cM (c:=c) (id:=n) 21 l c.q [] hg (by omega) hq.2
  have xD:(stE n l c).length ≤ 100:=stE_lenT hg
  rw [uH] at xD ⊢
  generalize matL c n 21 l c.q [] = xh at s1 s2 g1 g2 hm xD ⊢
  have k4:sK 4 xh.2.2 = 0:=sK_none (fun e he=>(s2 e he).1) (by decide)
  have k5:sK 5 xh.2.2 = 0:=sK_none (fun e he=>(s2 e he).1) (by decide)
  rw [matR] at hm
  have hp:¬ (c.t = 5∧0 < xh.2.2.length):=fun h=>by rw [if_pos h] at hm; cases hm
  rw [if_neg hp] at hm
  have hf:¬ (c.t = 4∧0 < xh.2.1):=fun h=>by rw [if_pos h] at hm; cases hm
  have z0:sK 3 ([]:List Ev) = 0:=rfl
  have h5:c.t = 5→sK 3 xh.2.2 = 0:=fun h=>by
   have:xh.2.2 = []:=List.length_eq_zero_iff.1 (by omega)
   rw [this]; rfl
  rw [accE] at xD ⊢
  refine ⟨_,_,List.cons_append,xD,.inr ⟨rfl,?_,hq.1,hq.2,?_⟩⟩
  ·intro e he
   rcases List.mem_append.1 he with he | he
   ·rcases List.mem_cons.1 he with rfl | he
    ·exact ⟨by show (0:Int) ≤ 0; decide,by show (0:Int) ≤ 1000000; decide⟩
    ·exact (s2 e he).2
   ·split at he
    ·rw [List.mem_singleton.1 he]; exact ⟨g1,g2⟩
    ·cases he
  ·rw [dT,dT,dT]
   have a3:∀ (kd:Int),kd ≠ 1→sK kd (⟨1,⟨1,c.s,c.t,c.l,c.q,0,c.p,c.g⟩,n,0,0,0,0⟩ :: xh.2.2) = sK kd xh.2.2:=fun kd hkd=>by
    rw [sK,if_neg (fun e=>hkd e.symm),Int.zero_add]
   rw [a3 3 (by decide),a3 4 (by decide),a3 5 (by decide)]
   by_cases hl:0 < xh.2.1
   ·rw [if_pos hl]
    by_cases hr:ay c.t = true
    ·rw [if_pos hr]
     have hr':c.t = 1 ∨ c.t = 5:=by simpa [ay] using hr
     simp only [sK]
     simp
     omega
    ·rw [if_neg hr]
     have hr':¬ (c.t = 1 ∨ c.t = 5):=by simpa [ay] using hr
     simp only [sK]
     simp
     omega
   ·rw [if_neg hl]
    simp only [sK]
    omega
 ·cases h0
theorem ty_other {n:Int} {l:List Od} {c:Cm} (hg:GoodL l) (h:¬ (refR n l c = 0∧c.k = 1)):TyOk c (stE n l c):=by
 have xD:(stE n l c).length ≤ 100:=stE_lenT hg
 by_cases h0:refR n l c = 0
 ·have hk:c.k ≠ 1:=fun hk=>h ⟨h0,hk⟩
  have uH:stE n l c = if c.k = 2 then (match l[(plc l c.i).toNat]? with | some o=>[⟨6,zCm,c.i,0,o.left,0,0⟩] | none=>[]) else if c.k = 3 then [⟨7,zCm,c.i,0,c.q,0,0⟩] else ⟨8,zCm,0,0,((l.filter dyB).length:Nat),0,0⟩ :: (l.filter dyB).map expE:=by
   rw [stE,if_pos h0,if_neg hk]; rfl
  by_cases K:c.k = 2
  ·rw [if_pos K] at uH
   rw [refR,if_neg hk,if_pos K] at h0
   split at h0
   ·rw [idR] at h0
    rcases du l c.i with hp | ⟨k,o,hp,Y⟩
    ·rw [if_pos (by omega)] at h0; cases h0
    ·rw [hp,Int.toNat_natCast,Y] at uH
     simp only at uH
     exact ⟨_,_,uH,xD,.inl (show (6:Int) ≠ 1 by decide)⟩
   ·cases h0
  ·rw [if_neg K] at uH
   by_cases h3:c.k = 3
   ·rw [if_pos h3] at uH
    exact ⟨_,_,uH,xD,.inl (show (7:Int) ≠ 1 by decide)⟩
   ·rw [if_neg h3] at uH
    exact ⟨_,_,uH,xD,.inl (show (8:Int) ≠ 1 by decide)⟩
 ·have uH:stE n l c = [⟨2,⟨c.k,c.s,c.t,c.l,c.q,c.i,c.p,cutB c.g⟩,0,0,0,0,refR n l c⟩]:=by rw [stE,if_neg h0]
  exact ⟨_,_,uH,xD,.inl (show (2:Int) ≠ 1 by decide)⟩
theorem ty_all {n:Int} {l:List Od} {c:Cm} (hg:GoodL l):TyOk c (stE n l c):=by
 by_cases h:refR n l c = 0∧c.k = 1
 ·exact ty_acc hg h.1 h.2
 ·exact ty_other hg h
theorem allR_of {next:Int}:∀ (l:List Od) (last:Int),(∀ o ∈ l,ordB o = true∧last < o.id∧o.id < next)→aH l→allR next last l = true
 | [],_,_,_=>rfl
 | a :: r,last,h,hr=>by
  obtain ⟨z,K,h3⟩:=h a (by simp)
  obtain ⟨p1,p2⟩:=List.pairwise_cons.1 hr
  rw [allR,z,decide_eq_true K,decide_eq_true h3,allR_of r a.id (fun o Y=>⟨(h o (by simp [Y])).1,p1 o Y,(h o (by simp [Y])).2.2⟩) p2]
  rfl
structure OkB (n:Int) (l:List Od):Prop where
 n1:1 ≤ n
 n2:n ≤ 1000000
 len:l.length ≤ 20
 ord:∀ o ∈ l,ordB o = true
 rise:aH l
 id0:∀ o ∈ l,0 < o.id
 ids:∀ o ∈ l,o.id < n
 lev:nlev l ≤ 8
 nox:∀ a ∈ l,a.side = 1→∀ b ∈ l,b.side = 2→a.ticks < b.ticks
theorem okB_ok {n:Int} {l:List Od} (h:OkB n l):okS n l = true:=by
 have z:=allR_of l 0 (fun o Y=>⟨h.ord o Y,h.id0 o Y,h.ids o Y⟩) h.rise (next:=n)
 have K:=(noX_iff l).2 h.nox
 have h3:betB n 1 1000000 = true:=by have:=h.n1; have:=h.n2; simp [betB]; omega
 rw [okS,z,K,h3,decide_eq_true h.len,decide_eq_true h.lev]; rfl
theorem okB_tags {n:Int} {l:List Od} (h:OkB n l):∀ o ∈ l,o.tag.size ≤ maxLen:=fun o Y=>by
 have:=h.ord o Y
 simp only [ordB,tagB,xb,xc] at this
 have z:=this.1.1.2.1
 unfold maxLen; omega
theorem okB_start:OkB 1 []:=⟨by omega,by omega,by simp,by simp,List.Pairwise.nil,by simp,by simp,by simp [nlev,nlevR],by simp⟩
theorem ord_side {o:Od} (h:ordB o = true):o.side = 1 ∨ o.side = 2:=by
 simp [ordB,betB] at h; omega
theorem bZ {o:Od} (h:ordB o = true):0 < o.left∧o.left ≤ 1000000:=by
 simp [ordB,betB] at h; omega
theorem dv {n:Int} {l:List Od} (h:OkB n l):GoodL l:=⟨h.len,fun o Y=>bZ (h.ord o Y),h.rise⟩
theorem ord_set {o:Od} (h:ordB o = true) {q:Int} (z:0 < q) (K:q ≤ 1000000):ordB { o with left:=q } = true:=by
 simp only [ordB,xb] at h ⊢
 exact ⟨h.1,by simp [betB]; omega⟩
theorem nodup_len:∀ {hR B:List Int},hR.Nodup→(∀ x ∈ hR,x ∈ B)→hR.length ≤ B.length
 | [],B,_,_=>by simp
 | a :: hR,B,h,hs=>by
  obtain ⟨z,K⟩:=List.nodup_cons.1 h
  have ha:=hs a (by simp)
  have:=nodup_len (B:=B.erase a) K (fun x hx=>(List.mem_erase_of_ne (show x ≠ a from fun e=>z (e ▸ hx))).2 (hs x (by simp [hx])))
  rw [List.length_erase_of_mem ha] at this
  have:=List.length_pos_of_mem ha
  simp; omega
theorem isT_nodup {s:Bool} {seq:List Od} {T:List Int} (h:IsT s seq T):T.Nodup:=h.sorted.imp (fun {a b} hab e=>by subst e; exact cn _ _ hab)
theorem nlev_sub {l l':List Od} (hs:∀ o ∈ l,o.side = 1 ∨ o.side = 2) (h:∀ x ∈ l',∃ o ∈ l,o.side = x.side∧o.ticks = x.ticks):nlev l' ≤ nlev l:=by
 have hs':∀ o ∈ l',o.side = 1 ∨ o.side = 2:=fun x hx=>by obtain ⟨o,z,K,_⟩:=h x hx; rw [← K]; exact hs o z
 rw [nlev_eq hs (aW true _) (aW false _),nlev_eq hs' (aW true _) (aW false _)]
 have e:∀ (s:Bool) (sd:Int),(tks s (zn l' sd)).length ≤ (tks s (zn l sd)).length:=fun s sd=>by
  refine nodup_len (isT_nodup (aW s _)) (fun k hk=>?_)
  obtain ⟨x,hx,rfl⟩:=((aW s (zn l' sd)).mem k).1 hk
  obtain ⟨hx1,hx2⟩:=List.mem_filter.1 hx
  obtain ⟨o,z,K,h3⟩:=h x hx1
  exact ((aW s (zn l sd)).mem _).2 ⟨o,List.mem_filter.2 ⟨z,by simpa [K] using hx2⟩,h3⟩
 have:=e true 1
 have:=e false 2
 omega
theorem okB_less {n:Int} {l l':List Od} (h:OkB n l) (hl:l'.length ≤ 20) (hr:aH l') (hm:∀ x ∈ l',∃ o ∈ l,∃ q,0 < q∧q ≤ 1000000∧x = { o with left:=q }):OkB n l':=by
 have hm':∀ x ∈ l',∃ o ∈ l,o.side = x.side∧o.ticks = x.ticks:=fun x hx=>by obtain ⟨o,z,q,_,_,rfl⟩:=hm x hx; exact ⟨o,z,rfl,rfl⟩
 refine ⟨h.n1,h.n2,hl,fun x hx=>?_,hr,fun x hx=>?_,fun x hx=>?_,yK (nlev_sub (fun o Y=>ord_side (h.ord o Y)) hm') h.lev,fun a ha z b hb K=>?_⟩
 ·obtain ⟨o,z,q,K,h3,rfl⟩:=hm x hx; exact ord_set (h.ord o z) K h3
 ·obtain ⟨o,z,q,K,h3,rfl⟩:=hm x hx; exact h.id0 o z
 ·obtain ⟨o,z,q,K,h3,rfl⟩:=hm x hx; exact h.ids o z
 ·obtain ⟨o,k1,k2,k3⟩:=hm' a ha
  obtain ⟨p,m1,m2,m3⟩:=hm' b hb
  have:=h.nox o k1 (k2.trans z) p m1 (m2.trans K)
  omega
theorem okB_hit {n:Int} {l:List Od} (h:OkB n l) {k:Nat} {o:Od} (hk:l[k]? = some o) {q:Int} (h0:0 ≤ q) (z:q ≤ o.left):OkB n (zR l k o q):=by
 have hg:=(dd (dv h) hk h0 z).1
 have Y:=yL hk
 have jc:=bZ (h.ord o Y)
 refine okB_less h hg.len hg.rise (fun x hx=>?_)
 rw [zR] at hx
 split at hx
 ·have hx':x ∈ l:=by
   rcases List.mem_append.1 hx with K | K
   ·exact List.mem_of_mem_take K
   ·exact List.mem_of_mem_drop K
  have:=bZ (h.ord x hx')
  exact ⟨x,hx',x.left,this.1,this.2,rfl⟩
 ·next xA =>
  rcases List.mem_or_eq_of_mem_set hx with K | rfl
  ·have:=bZ (h.ord x K)
   exact ⟨x,K,x.left,this.1,this.2,rfl⟩
  ·exact ⟨o,Y,o.left - q,by omega,by omega,rfl⟩
theorem okB_mat {n:Int} {c:Cm} {id:Int}:∀ (k:Nat) (l:List Od) (left:Int) (ts:List Ev),OkB n l→0 ≤ left→left ≤ 1000000→OkB n (matL c id k l left ts).1
 | 0,l,left,ts,h,h0,z=>h
 | k + 1,l,left,ts,h,h0,z=>by
  rw [matL]
  by_cases hl:0 < left
  ·rw [if_pos hl]
   cases hf:aD l (othS c.s) with
   | none=>exact h
   | some o =>
    simp only
    by_cases hm:aI c o = true
    ·rw [if_pos hm]
     obtain ⟨vi,_⟩:=cX hf
     obtain ⟨i,hi⟩:=List.getElem?_of_mem vi
     have Y:=bZ (h.ord o vi)
     rw [plc_at h.rise hi,Int.toNat_natCast]
     exact okB_mat k _ _ _ (okB_hit h hi (by omega) (by omega)) (by omega) (by omega)
    ·rw [if_neg hm]; exact h
  ·rw [if_neg hl]; exact h
theorem mat_stop {c:Cm} {id:Int}:∀ (k:Nat) (l:List Od) (left:Int) (ts:List Ev),GoodL l→0 ≤ left→left ≤ 1000000→l.length < k→0 < (matL c id k l left ts).2.1→∀ o,aD (matL c id k l left ts).1 (othS c.s) = some o→aI c o = false
 | 0,l,left,ts,h,h0,z,hk=>by omega
 | k + 1,l,left,ts,h,h0,z,hk=>by
  rw [matL]
  by_cases hl:0 < left
  ·rw [if_pos hl]
   cases hf:aD l (othS c.s) with
   | none=>intro _ o Y; simp only at Y; rw [hf] at Y; cases Y
   | some p =>
    simp only
    by_cases hm:aI c p = true
    ·rw [if_pos hm]
     obtain ⟨vi,_⟩:=cX hf
     obtain ⟨i,hi⟩:=List.getElem?_of_mem vi
     have Y:=h.left p vi
     rw [plc_at h.rise hi,Int.toNat_natCast]
     obtain ⟨g1,g2⟩:=dd h hi (qty:=min left p.left) (by omega) (by omega)
     rcases g2 with g2 | ⟨g2,g3⟩
     ·exact mat_stop k _ _ _ g1 (by omega) (by omega) (by omega)
     ·intro vW
      exfalso
      have:left - min left p.left = 0:=by omega
      rw [this,matL_end (by omega)] at vW
      simp at vW
    ·rw [if_neg hm]; intro _ o Y; simp only at Y; rw [hf] at Y
     obtain rfl:=hD Y
     simpa using hm
  ·rw [if_neg hl]; intro vW; exact absurd vW hl
theorem far_meet {c:Cm} {l:List Od} (hr:aH l) (ht:c.t ≠ 2) (hs:c.s = 1 ∨ c.s = 2) (h:∀ o,aD l (othS c.s) = some o→aI c o = false):∀ o ∈ l,o.side = othS c.s→(c.s = 1→tk c.p < o.ticks)∧(c.s = 2→o.ticks < tk c.p):=by
 intro x hx uu
 rcases dM (s:=decide (othS c.s = 1)) hr (sd:=othS c.s) with ⟨_,z⟩ | ⟨i,o,z,K⟩
 ·exact absurd uu (z x hx)
 ·have hm:=h o z
  obtain ⟨j,L⟩:=List.getElem?_of_mem hx
  rw [aI,if_neg ht] at hm
  have hb:x = o ∨ ahd (decide (othS c.s = 1)) o x:=by
   by_cases hji:j = i
   ·subst hji; rw [K.1] at L; exact .inl (Option.some.inj L).symm
   ·exact .inr (K.2.2 j x L uu hji)
  rcases hs with hs | hs
  ·refine ⟨fun _=>?_,fun e=>by omega⟩
   rw [if_pos hs] at hm
   have hm':¬ o.ticks ≤ tk c.p:=by simpa using hm
   have Y:othS c.s = 2:=by simp [othS,hs]
   rw [Y] at hb
   rcases hb with rfl | hb
   ·omega
   ·rcases hb with hb | hb
    ·simp only [bt] at hb; simp at hb; omega
    ·omega
  ·refine ⟨fun e=>by omega,fun _=>?_⟩
   rw [if_neg (by omega)] at hm
   have hm':¬ tk c.p ≤ o.ticks:=by simpa using hm
   have Y:othS c.s = 1:=by simp [othS,hs]
   rw [Y] at hb
   rcases hb with rfl | hb
   ·omega
   ·rcases hb with hb | hb
    ·simp only [bt] at hb; simp at hb; omega
    ·omega
theorem okB_add {n:Int} {l:List Od} {o:Od} (h:OkB n l) (hn:n ≠ 1000000) (hi:o.id = n) (Y:ordB o = true) (hf:aZ (l ++ [o]) = false) (hx:∀ x ∈ l,x.side ≠ o.side→(o.side = 1→o.ticks < x.ticks)∧(o.side = 2→x.ticks < o.ticks)):OkB (n + 1) (l ++ [o]):=by
 have hn1:=h.n1
 have hn2:=h.n2
 have uu:∀ x ∈ l ++ [o],x.side = 1 ∨ x.side = 2:=fun x hx=>by
  rcases List.mem_append.1 hx with z | z
  ·exact ord_side (h.ord x z)
  ·rw [List.mem_singleton.1 z]; exact ord_side Y
 rw [full_eq h.len uu,fullS] at hf
 simp only [Bool.or_eq_false_iff,decide_eq_false_iff_not] at hf
 have hl:=h.len
 have key:∀ x ∈ l ++ [o],x ∈ l ∨ x = o:=fun x hx=>by
  rcases List.mem_append.1 hx with z | z
  ·exact .inl z
  ·exact .inr (List.mem_singleton.1 z)
 refine ⟨by omega,by omega,by simp; omega,fun x hx=>?_,?_,fun x hx=>?_,fun x hx=>?_,by omega,fun a ha z b hb K=>?_⟩
 ·rcases key x hx with z | rfl
  ·exact h.ord x z
  ·exact Y
 ·refine List.pairwise_append.2 ⟨h.rise,List.pairwise_singleton _ _,fun a ha b hb=>?_⟩
  rw [List.mem_singleton.1 hb,hi]; exact h.ids a ha
 ·rcases key x hx with z | rfl
  ·exact h.id0 x z
  ·omega
 ·rcases key x hx with z | rfl
  ·have:=h.ids x z; omega
  ·omega
 ·rcases key a ha with k1 | rfl
  ·rcases key b hb with k2 | rfl
   ·exact h.nox a k1 z b k2 K
   ·exact (hx a k1 (by omega)).2 K
  ·rcases key b hb with k2 | rfl
   ·exact (hx b k2 (by omega)).1 z
   ·omega
theorem okB_step {n:Int} {l:List Od} {c:Cm} (h:OkB n l) (hp:PrW c.p):OkB (stN n l c) (stL n l c):=by
 rw [stN,stL]
 by_cases h0:refR n l c = 0
 ·rw [if_pos h0]
  by_cases hk:c.k = 1
  ·rw [if_pos ⟨h0,hk⟩,if_pos hk]
   rw [refR,if_pos hk] at h0
   split at h0
   ·rw [newR] at h0
    have e:betB c.s 1 2 = true∧betB c.t 1 5 = true∧lifW c = false∧prcB c = true∧betB c.q 1 1000000 = true∧tagB c.g = true∧matR n c (matL c n 21 l c.q []) = 0:=by
     revert h0
     cases z:betB c.s 1 2
     ·intro h; cases h
     cases K:betB c.t 1 5
     ·intro h; cases h
     cases h3:lifW c
     ·cases h4:prcB c
      ·intro h; cases h
      cases h5:betB c.q 1 1000000
      ·intro h; cases h
      cases h6:tagB c.g
      ·intro h; cases h
      intro h
      exact ⟨rfl,rfl,rfl,rfl,rfl,rfl,h⟩
     ·intro h; cases h
    obtain ⟨z,K,h3,h4,h5,h6,h7⟩:=e
    have hq:1 ≤ c.q∧c.q ≤ 1000000:=by simpa [betB] using h5
    have hm:=okB_mat (c:=c) (id:=n) 21 l c.q [] h (by omega) hq.2
    have uH:=mat_stop (c:=c) (id:=n) 21 l c.q [] (dv h) (by omega) hq.2 (by have:=h.len; omega)
    obtain ⟨-,g1,g2⟩:=cM (c:=c) (id:=n) 21 l c.q [] (dv h) (by omega) hq.2
    generalize matL c n 21 l c.q [] = xh at h7 hm uH g1 g2 ⊢
    rw [matR] at h7
    have hn:n ≠ 1000000:=fun e=>by
     by_cases a1:c.t = 5∧0 < xh.2.2.length
     ·rw [if_pos a1] at h7; cases h7
     ·rw [if_neg a1] at h7
      by_cases a2:c.t = 4∧0 < xh.2.1
      ·rw [if_pos a2] at h7; cases h7
      ·rw [if_neg a2,if_pos e] at h7; cases h7
    have hn2:=h.n2
    rw [accL]
    by_cases hr:0 < xh.2.1∧ay c.t = true
    ·rw [if_pos hr]
     have hf:aZ (xh.1 ++ [⟨n,c.s,tk c.p,xh.2.1,c.l,c.g⟩]) = false:=by
      cases hff:aZ (xh.1 ++ [⟨n,c.s,tk c.p,xh.2.1,c.l,c.g⟩])
      ·rfl
      ·exfalso
       have hff':aZ (xh.1 ++ [{ ordO c n with left:=xh.2.1 }]) = true:=hff
       revert h7
       split
       ·intro h; cases h
       split
       ·intro h; cases h
       rw [if_pos ⟨hr.2,hr.1⟩]
       intro h; cases h
     have ht:c.t = 1 ∨ c.t = 5:=by simpa [ay] using hr.2
     have hs:c.s = 1 ∨ c.s = 2:=by simp [betB] at z; omega
     have oC:tkOk c.p = true:=by rw [prcB,if_neg (by omega)] at h4; exact h4
     obtain ⟨p1,p2⟩:=hp oC
     have hl:betB c.l 0 1 = true:=by
      rw [lifW] at h3
      cases hb:betB c.l 0 1
      ·rw [hb] at h3; simp at h3
      ·rfl
     have hfar:=far_meet (c:=c) hm.rise (by omega) hs (uH hr.1)
     refine okB_add hm hn rfl ?_ hf (fun x hx xA=>?_)
     ·simp only [ordB,z,hl,h6,Bool.true_and,Bool.and_true,xb]
      simp [betB]; omega
     ·have hxs:=ord_side (hm.ord x hx)
      have hne':x.side ≠ c.s:=xA
      have Y:x.side = othS c.s:=by rw [othS]; split <;> omega
      exact hfar x hx Y
    ·rw [if_neg hr]
     exact ⟨by have:=hm.n1; omega,by omega,hm.len,hm.ord,hm.rise,hm.id0,fun o Y=>by have:=hm.ids o Y; omega,hm.lev,hm.nox⟩
   ·cases h0
  ·rw [if_neg (fun e=>hk e.2),if_neg hk]
   by_cases K:c.k = 2
   ·rw [if_pos K]
    cases Y:l[(plc l c.i).toNat]? with
    | none=>exact h
    | some o =>
     have:=bZ (h.ord o (yL Y))
     exact okB_hit h Y (by omega) (Int.le_refl _)
   ·rw [if_neg K]
    by_cases h3:c.k = 3
    ·rw [if_pos h3]
     cases Y:l[(plc l c.i).toNat]? with
     | none=>exact h
     | some o =>
      rw [refR,if_neg hk,if_neg K,if_pos h3] at h0
      have hq:betB c.q 1 1000000 = true:=by
       split at h0
       ·rw [redR] at h0
        cases hb:betB c.q 1 1000000
        ·rw [hb] at h0; cases h0
        ·rfl
       ·cases h0
      have hq':1 ≤ c.q∧c.q ≤ 1000000:=by simpa [betB] using hq
      have hom:=yL Y
      refine okB_less h (by simp; exact h.len) ?_ (fun x hx=>?_)
      ·have hmap:(l.set (plc l c.i).toNat { o with left:=c.q }).map Od.id = l.map Od.id:=by
        rw [List.map_set]
        show (l.map Od.id).set _ o.id = _
        apply List.ext_getElem? 
        intro j
        by_cases L:(plc l c.i).toNat = j
        ·subst L
         rw [List.getElem?_set_self (by simp; exact (yD.1 Y).1),List.getElem?_map,Y]; rfl
        ·rw [yT L]
       have hr:=h.rise
       rw [aH,← List.pairwise_map (f:=Od.id) (R:=fun a b=>a < b)] at hr ⊢
       rw [hmap]; exact hr
      ·rcases List.mem_or_eq_of_mem_set hx with h4 | rfl
       ·have:=bZ (h.ord x h4)
        exact ⟨x,h4,x.left,this.1,this.2,rfl⟩
       ·exact ⟨o,hom,c.q,by omega,hq'.2,rfl⟩
    ·rw [if_neg h3]
     refine okB_less h (yK (List.length_filter_le _ _) h.len) (h.rise.filter _) (fun x hx=>?_)
     have hx':=(List.mem_filter.1 hx).1
     have:=bZ (h.ord x hx')
     exact ⟨x,hx',x.left,this.1,this.2,rfl⟩
 ·rw [if_neg h0,if_neg (fun e=>h0 e.1)]; exact h
theorem okB_run (cs:List Cm) (hp:∀ c ∈ cs,PrW c.p):∀ k,k ≤ cs.length→OkB (runS (cs.take k)).n (runS (cs.take k)).l:=by
 intro k
 induction k with
 | zero=>intro _; exact okB_start
 | succ k ih =>
  intro hk
  obtain ⟨c,hc⟩:∃ c,cs[k]? = some c:=⟨_,yE (by omega)⟩
  rw [run_step cs hc]
  exact okB_step (ih (by omega)) (hp c (yL hc))
end Go.Proofs.YtbakanofkghmiaaGreat
