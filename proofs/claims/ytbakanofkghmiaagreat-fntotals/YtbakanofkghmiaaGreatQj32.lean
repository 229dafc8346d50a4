/-
  What holds of a book along a script: not too many orders, quantities in their bounds, Ids rising and below the next one. No function walked.
-/
import Derived.Test.YtbakanofkghmiaaGreatQj31
set_option linter.unusedVariables false
set_option maxHeartbeats 6400000
set_option maxRecDepth 100000
namespace Go.Proofs.YtbakanofkghmiaaGreat
open Go.RowKit
structure Inv (next:Int) (l:List Od):Prop where
 good:GoodL l
 side:∀ o ∈ l,o.side = 1 ∨ o.side = 2
 ids:∀ o ∈ l,o.id < next
theorem inv_start:Inv 1 []:=⟨⟨by simp,by simp,List.Pairwise.nil⟩,by simp,by simp⟩
theorem hit_ids {l:List Od} {k:Nat} {o:Od} {q:Int} (hk:l[k]? = some o) {b:Int} (h:∀ x ∈ l,x.id < b):∀ x ∈ aM l k o q,x.id < b:=by
 intro x hx
 rw [aM] at hx
 split at hx
 ·rcases List.mem_append.1 hx with Q | Q
  ·exact h x (List.mem_of_mem_take Q)
  ·exact h x (List.mem_of_mem_drop Q)
 ·rcases List.mem_or_eq_of_mem_set hx with Q | rfl
  ·exact h x Q
  ·exact h o (yP hk)
theorem matL_ids {c:Cm} {id b:Int}:∀ (n:Nat) (l:List Od) (left:Int) (ts:List Ev),bu l→GoodL l→0 ≤ left→left ≤ 1000000→(∀ x ∈ l,x.id < b)→∀ x ∈ (matL c id n l left ts).1,x.id < b:=by
 intro n
 induction n with
 | zero=>intro l left ts _ _ _ _ h x hx; exact h x hx
 | succ n ih =>
  intro l left ts hr hg h0 Q h x hx
  rw [matL] at hx
  split at hx
  ·next xL =>
   split at hx
   ·exact h x hx
   ·next o hf =>
    split at hx
    ·obtain ⟨vD,_⟩:=dO hf
     obtain ⟨k,hk⟩:=List.getElem?_of_mem vD
     have hp:=plc_at hr hk
     have qV:(plc l o.id).toNat = k:=by rw [hp]; rfl
     rw [qV] at hx
     have Z:=hg.left o vD
     have hgh:=dv hg hk (qty:=min left o.left) (by omega) (by omega)
     exact ih _ _ _ hgh.1.rise hgh.1 (by omega) (by omega) (hit_ids hk h) x hx
    ·exact h x hx
  ·exact h x hx
theorem inv_step {next:Int} {l:List Od} (c:Cm) (h:Inv next l) (h0:0 ≤ next) (Q:next ≤ 1000000):Inv (stN next l c) (stL next l c)∧next ≤ stN next l c∧stN next l c ≤ next + 1:=by
 rw [stN,stL]
 by_cases hr:refR next l c = 0
 ·rw [if_pos hr]
  by_cases hk:c.k = 1
  ·rw [if_pos ⟨hr,hk⟩,if_pos hk]
   refine ⟨?_,by omega,by omega⟩
   have hq:=cC hr hk
   have hn:=ref_new hr hk
   have hg:=cN (c:=c) (id:=next) 21 l c.q [] h.good (by omega) hq.2
   have hs:=matL_side (c:=c) (id:=next) 21 l c.q [] h.good.rise h.good (by omega) hq.2 h.side
   have hi:=matL_ids (c:=c) (id:=next) (b:=next) 21 l c.q [] h.good.rise h.good (by omega) hq.2 h.ids
   rw [newR] at hn
   split at hn
   ·cases hn
   rename_i uJ
   split at hn
   ·cases hn
   split at hn
   ·cases hn
   split at hn
   ·cases hn
   split at hn
   ·cases hn
   split at hn
   ·cases hn
   have uJ:c.s = 1 ∨ c.s = 2:=side_of (by simpa using uJ)
   generalize matL c next 21 l c.q [] = ty at hg hs hi hn ⊢
   rw [accL]
   split
   ·next pQ =>
    rw [matR] at hn
    split at hn
    ·cases hn
    split at hn
    ·cases hn
    split at hn
    ·cases hn
    rw [if_pos ⟨pQ.2,pQ.1⟩] at hn
    split at hn
    ·cases hn
    rename_i hfu
    have xG:(ty.1 ++ [{ ordO c next with left:=ty.2.1 }]).length ≤ 20:=by
     rcases Nat.lt_or_ge 20 (ty.1 ++ [{ ordO c next with left:=ty.2.1 }]).length with hh | hh
     ·exact absurd (show fullB (ty.1 ++ [{ ordO c next with left:=ty.2.1 }]) = true by rw [fullB]; exact if_pos hh) (by simpa using hfu)
     ·exact hh
    refine ⟨⟨by simpa using xG,?_,?_⟩,?_,?_⟩
    ·intro o Z
     rcases List.mem_append.1 Z with Z | Z
     ·exact hg.1.left o Z
     ·simp at Z; subst Z; exact ⟨pQ.1,hg.2.2⟩
    ·refine List.pairwise_append.2 ⟨hg.1.rise,List.pairwise_singleton _ _,fun a ha b X=>?_⟩
     simp at X; subst X; exact hi a ha
    ·intro o Z
     rcases List.mem_append.1 Z with Z | Z
     ·exact hs o Z
     ·simp at Z; subst Z; exact uJ
    ·intro o Z
     rcases List.mem_append.1 Z with Z | Z
     ·have:=hi o Z; omega
     ·simp at Z; subst Z; show next < next + 1; omega
   ·exact ⟨hg.1,hs,fun o Z=>by have:=hi o Z; omega⟩
  ·rw [if_neg (fun e=>hk e.2),if_neg hk]
   refine ⟨?_,by omega,by omega⟩
   by_cases hk2:c.k = 2
   ·rw [if_pos hk2]
    obtain ⟨k,o,hp,Z⟩:=ref_id hr (.inl hk2)
    have qV:(plc l c.i).toNat = k:=by rw [hp]; rfl
    simp only [qV,Z]
    have X:=h.good.left o (yP Z)
    exact ⟨(dv h.good Z (qty:=o.left) (by omega) (by omega)).1,hit_side Z h.side,hit_ids Z h.ids⟩
   ·rw [if_neg hk2]
    by_cases hk3:c.k = 3
    ·rw [if_pos hk3]
     obtain ⟨k,o,hp,Z⟩:=ref_id hr (.inr hk3)
     have qV:(plc l c.i).toNat = k:=by rw [hp]; rfl
     simp only [qV,Z]
     have hq:1 ≤ c.q∧c.q ≤ 1000000∧c.q < o.left:=by
      rw [refR,if_neg hk,if_neg hk2,if_pos hk3] at hr
      split at hr
      ·rw [redR] at hr
       split at hr
       ·next X =>
        rw [hp] at hr
        simp only [Int.toNat_natCast,Z] at hr
        split at hr
        ·cases hr
        ·split at hr
         ·cases hr
         ·have:1 ≤ c.q∧c.q ≤ 1000000:=by simpa [betB] using X
          omega
       ·cases hr
      ·cases hr
     have vD:∀ x ∈ l.set k { o with left:=c.q },∃ y ∈ l,x.id = y.id∧x.side = y.side∧(x.left = y.left ∨ x.left = c.q):=by
      intro x hx
      rcases List.mem_or_eq_of_mem_set hx with Q | rfl
      ·exact ⟨x,Q,rfl,rfl,.inl rfl⟩
      ·exact ⟨o,yP Z,rfl,rfl,.inr rfl⟩
     refine ⟨⟨by simpa using h.good.len,?_,?_⟩,?_,?_⟩
     ·intro x hx
      obtain ⟨y,hy,_,_,h3⟩:=vD x hx
      have:=h.good.left y hy
      rcases h3 with h3 | h3 <;> omega
     ·have kl:=h.good.rise
      rw [bu,List.pairwise_iff_getElem] at kl ⊢
      intro i j hi R pI
      have ql:i < l.length:=by simpa using hi
      have hj':j < l.length:=by simpa using R
      have key:∀ i (hi:i < (l.set k { o with left:=c.q }).length),((l.set k { o with left:=c.q })[i]).id = (l[i]'(by simpa using hi)).id:=by
       intro i hi
       rw [List.getElem_set]
       split
       ·next e=>subst e; have:=yH.1 Z; obtain ⟨_,rfl⟩:=this; rfl
       ·rfl
      rw [key i hi,key j R]
      exact kl i j ql hj' pI
     ·intro x hx
      obtain ⟨y,hy,_,N,_⟩:=vD x hx
      rw [N]; exact h.side y hy
     ·intro x hx
      obtain ⟨y,hy,N,_,_⟩:=vD x hx
      rw [N]; exact h.ids y hy
    ·rw [if_neg hk3]
     have hsub:∀ x ∈ l.filter ndy,x ∈ l:=fun x hx=>(List.mem_filter.1 hx).1
     exact ⟨⟨yO (List.length_filter_le _ _) h.good.len,fun o Z=>h.good.left o (hsub o Z),List.Pairwise.filter _ h.good.rise⟩,fun o Z=>h.side o (hsub o Z),fun o Z=>h.ids o (hsub o Z)⟩
 ·rw [if_neg (fun e=>hr e.1),if_neg hr]
  exact ⟨h,by omega,by omega⟩
def cntO (t:Tot) (o:Od):Tot:={ t with li:=wrap64 (t.li + 1),le:=wrap64 (t.le + o.left) }
def wbT (t:Tot) (l:List Od):Tot:=l.foldl cntO t
theorem wb_step (t:Tot) (l:List Od) {k:Nat} {o:Od} (h:l[k]? = some o):wbT t (l.take (k + 1)) = cntO (wbT t (l.take k)) o:=by
 unfold wbT
 rw [List.take_add_one,h,List.foldl_append]; rfl
def cntF (n:Nat):Int:=if 4096 < n then 2 else if 200 < n then 7 else 0
theorem eB (n:Nat) (hn:n ≤ 1073741824) (w:World):Calls Tryz.prog 31 #[H n] w fun r w'=>r = ym (H (cntF n))∧w' = w:=by
 have HF:=Y (cntF.eq_1 n)
 generalize cntF n = ty at HF ⊢
 by_cases Q:4096 < n
 ·have qz:Hid (ty = 2):=(U HF).trans (if_pos Q)
  have oH:(4096:Int) < n:=by omega
  clear HF
  go_enter Tryz.func31,Tryz.ntmps31
  go_wp2_with fail
  exact ⟨rfl,H ty,by rw [U qz]; simp [results,Tryz.results31,go_sem],rfl,rfl⟩
 ·have oH:¬ (4096:Int) < n:=by omega
  by_cases N:200 < n
  ·have qz:Hid (ty = 7):=(U HF).trans ((if_neg Q).trans (if_pos N))
   have kH:(200:Int) < n:=by omega
   clear HF
   go_enter Tryz.func31,Tryz.ntmps31
   go_wp2_with fail
   exact ⟨rfl,H ty,by rw [U qz]; simp [results,Tryz.results31,go_sem],rfl,rfl⟩
  ·have qz:Hid (ty = 0):=(U HF).trans ((if_neg Q).trans (if_neg N))
   have kH:¬ (200:Int) < n:=by omega
   clear HF
   go_enter Tryz.func31,Tryz.ntmps31
   go_wp2_with fail
   exact ⟨rfl,H ty,by rw [U qz]; simp [results,Tryz.results31,go_sem],rfl,rfl⟩
theorem keepB {w W:World} {S:Nat} {cs:List Value} (h:W.rangeAt S 0 cs∧W.there S 0 8∧W.there (S + 1 + 1) 0 8∧Below S w W∧S + 1 + 1 + 1 ≤ W.heap.size) (j:Nat) (R:j < cs.length) (u:Value):(W.setCell (J S j) u).rangeAt S 0 (cs.set j u)∧(W.setCell (J S j) u).there S 0 8∧(W.setCell (J S j) u).there (S + 1 + 1) 0 8∧Below S w (W.setCell (J S j) u)∧S + 1 + 1 + 1 ≤ (W.setCell (J S j) u).heap.size :=
 ⟨cA h.1 R,zE h.2.1,zE h.2.2.1,h.2.2.2.1.setCell (p:=(J S j)) tg _,by simp only [World.setCell,Array.size_modify]; exact h.2.2.2.2⟩
theorem withBook_any (t:Tot) (next:Int) (v:Value) (l:List Od) (w:World) (hr:RdR Od.vs 6 w v l) :
  Calls Tryz.prog 33 #[.agg #[H t.gr,H t.ac,H t.rf,H t.tr,H t.vo,H t.no,H t.li,H t.le],.agg #[H next,v]] w fun r w'=>r = ym (.agg #[H (wbT t l).gr,H (wbT t l).ac,H (wbT t l).rf,H (wbT t l).tr,H (wbT t l).vo,H (wbT t l).no,H (wbT t l).li,H (wbT t l).le])∧yn w w':=by
 obtain ⟨a,A,rfl,xG,hc⟩:=hr
 have xr:∀ (k:Nat) (c:Od),l[k]? = some c→∃ b off,a = some (J b off)∧b < w.heap.size∧w.rangeAt b (off + k * 6) c.vs:=by
  intro k c hk
  obtain ⟨b,off,Q,N,h3⟩:=hc (by intro h; rw [h] at hk; simp at hk)
  exact ⟨b,off,Q,N,h3 k c hk⟩
 have HC:=Y xr
 clear xr hc
 have hsf:=sfl
 have xC:=zh w (E #[H t.gr,H t.ac,H t.rf,H t.tr,H t.vo,H t.no,H t.li,H t.le] 30)
 have ua:((w.alloc (E #[H t.gr,H t.ac,H t.rf,H t.tr,H t.vo,H t.no,H t.li,H t.le] 30)).alloc (E #[H next,.slice a l.length A] 28)).heap.size = w.heap.size + 1 + 1:=by rw [zh,xC]
 have jd:(((w.alloc (E #[H t.gr,H t.ac,H t.rf,H t.tr,H t.vo,H t.no,H t.li,H t.le] 30)).alloc (E #[H next,.slice a l.length A] 28)).alloc (E #[H 0,H 0,H 0,H 0,H 0,H 0,H 0,H 0] 30)).heap.size = w.heap.size + 1 + 1 + 1:=by rw [zh,ua]
 have r1:=zi w [H t.gr,H t.ac,H t.rf,H t.tr,H t.vo,H t.no,H t.li,H t.le] 30
 have t1:=zw w [H t.gr,H t.ac,H t.rf,H t.tr,H t.vo,H t.no,H t.li,H t.le] 30
 have r2:=zi (w.alloc (E #[H t.gr,H t.ac,H t.rf,H t.tr,H t.vo,H t.no,H t.li,H t.le] 30)) [H next,.slice a l.length A] 28
 have t3:=zw ((w.alloc (E #[H t.gr,H t.ac,H t.rf,H t.tr,H t.vo,H t.no,H t.li,H t.le] 30)).alloc (E #[H next,.slice a l.length A] 28)) [H 0,H 0,H 0,H 0,H 0,H 0,H 0,H 0] 30
 rw [ua] at t3
 rw [xC] at r2
 have b1:=eE w (E #[H t.gr,H t.ac,H t.rf,H t.tr,H t.vo,H t.no,H t.li,H t.le] 30)
 have b2:Below (w.heap.size + 1) (w.alloc (E #[H t.gr,H t.ac,H t.rf,H t.tr,H t.vo,H t.no,H t.li,H t.le] 30)) ((w.alloc (E #[H t.gr,H t.ac,H t.rf,H t.tr,H t.vo,H t.no,H t.li,H t.le] 30)).alloc (E #[H next,.slice a l.length A] 28)):=(Below.refl _ _).alloc (by omega) _
 have b3:Below (w.heap.size + 1 + 1) ((w.alloc (E #[H t.gr,H t.ac,H t.rf,H t.tr,H t.vo,H t.no,H t.li,H t.le] 30)).alloc (E #[H next,.slice a l.length A] 28)) (((w.alloc (E #[H t.gr,H t.ac,H t.rf,H t.tr,H t.vo,H t.no,H t.li,H t.le] 30)).alloc (E #[H next,.slice a l.length A] 28)).alloc (E #[H 0,H 0,H 0,H 0,H 0,H 0,H 0,H 0] 30)):=(Below.refl _ _).alloc (by omega) _
 have HX:Hid (_∧_∧_∧_∧_):=⟨zb (zb r1 b2 (by omega)) b3 (by omega),zg (zg t1 b2 (by omega)) b3 (by omega),t3,(b1.trans (b2.mono (by omega))).trans (b3.mono (by omega)),Nat.le_of_eq jd.symm⟩
 have HBK:=Y (zb r2 b3 (by omega))
 clear xC ua jd r1 r2 t1 t3 b1 b2 b3
 go_enter Tryz.func33,Tryz.ntmps33
 refine eI fun hR xv=>?_
 go_wp2_with fail
 refine U xv _ _ ?_
 clear xv
 generalize (((w.alloc (E #[H t.gr,H t.ac,H t.rf,H t.tr,H t.vo,H t.no,H t.li,H t.le] 30)).alloc (E #[H next,.slice a l.length A] 28)).alloc (E #[H 0,H 0,H 0,H 0,H 0,H 0,H 0,H 0] 30)) = hb at HX HBK ⊢
 have HX:Hid ((hb).rangeAt w.heap.size 0 (wbT t (l.take 0)).vs∧(hb).there w.heap.size 0 8∧(hb).there (w.heap.size + 1 + 1) 0 8∧yn w (hb)∧w.heap.size + 1 + 1 + 1 ≤ (hb).heap.size):=U HX
 have c0:hb.cell? (J (w.heap.size + 1) 0) = some (H next):=U HBK 0 _ rfl
 have c1:hb.cell? (J (w.heap.size + 1) 1) = some (.slice a l.length A):=U HBK 1 _ rfl
 go_wp2_with fail
 clear c0 c1
 go_loopw [10] (fun iv wr=>∃ (k:Nat),k ≤ l.length∧iv = H k∧Hid ((wr).rangeAt w.heap.size 0 (wbT t (l.take k)).vs∧(wr).there w.heap.size 0 8∧(wr).there (w.heap.size + 1 + 1) 0 8∧yn w (wr)∧w.heap.size + 1 + 1 + 1 ≤ (wr).heap.size)) (fun iv _=>l.length - (intOf iv).toNat)
 case atStart=>exact ⟨0,Nat.zero_le _,rfl,U HX⟩
 case round =>
  obtain ⟨k,hk,rfl,ux⟩:=hrel
  by_cases xL:k < l.length
  ·obtain ⟨e,jh⟩:∃ e,l[k]? = some e:=⟨_,yI xL⟩
   obtain ⟨b,off,rfl,X,xp⟩:=U HC k e jh
   have vF:=Y (wb_step t l jh)
   have uy:(k:Int) < l.length:=by omega
   have hse:=(U ux).2.2.2.2
   obtain ⟨g0,g1,g2,g3,g4,g5⟩:=zF (zb xp (U ux).2.2.2.1 X)
   have vp:=eE wr (E (yw e.id e.side e.ticks e.left e.life e.tag).toArray 49)
   have HY:Hid (((wr.alloc (E (yw e.id e.side e.ticks e.left e.life e.tag).toArray 49))).rangeAt w.heap.size 0 (wbT t (l.take k)).vs∧((wr.alloc (E (yw e.id e.side e.ticks e.left e.life e.tag).toArray 49))).there w.heap.size 0 8∧((wr.alloc (E (yw e.id e.side e.ticks e.left e.life e.tag).toArray 49))).there (w.heap.size + 1 + 1) 0 8∧yn w ((wr.alloc (E (yw e.id e.side e.ticks e.left e.life e.tag).toArray 49)))∧w.heap.size + 1 + 1 + 1 ≤ ((wr.alloc (E (yw e.id e.side e.ticks e.left e.life e.tag).toArray 49))).heap.size):=⟨zb (U ux).1 vp (by omega),zg (U ux).2.1 vp (by omega),zg (U ux).2.2.1 vp (by omega),(U ux).2.2.2.1.trans (vp.mono (by omega)),yO hse vp.size⟩
   generalize wbT t (l.take k) = T at vF HY
   obtain ⟨uf,ue,uh,ui,uj,ug,uu,ut⟩:=T
   have xB:w.heap.size ≠ wr.heap.size:=by omega
   have hne':wr.heap.size ≠ w.heap.size:=by omega
   have d6:(wr.alloc (E (yw e.id e.side e.ticks e.left e.life e.tag).toArray 49)).cell? (yq w 6) = some (H uu):=(U HY).1 6 _ rfl
   have p6:(wr.alloc (E (yw e.id e.side e.ticks e.left e.life e.tag).toArray 49)).frozen? (yq w 6) = false:=by have:=((U HY).2.1 6 (by omega)).2; rwa [Nat.zero_add] at this
   have d7:(wr.alloc (E (yw e.id e.side e.ticks e.left e.life e.tag).toArray 49)).cell? (yq w 7) = some (H ut):=(U HY).1 7 _ rfl
   have p7:(wr.alloc (E (yw e.id e.side e.ticks e.left e.life e.tag).toArray 49)).frozen? (yq w 7) = false:=by have:=((U HY).2.1 7 (by omega)).2; rwa [Nat.zero_add] at this
   clear jh xp X vp
   have HN:Hid (wbT t (l.take (k + 1)) = ⟨uf,ue,uh,ui,uj,ug,wrap64 (uu + 1),wrap64 (ut + e.left)⟩):=U vF
   clear vF
   go_wp2_with fail
   go_roundw
   case rel=>exact ⟨k + 1,by omega,by go_num,by rw [U HN]; exact keepB (keepB (U HY) 6 (by simp [Tot.vs]) _) 7 (by simp [Tot.vs]) _⟩
   case measure=>simp [intOf]; omega
  ·have uy:¬ (k:Int) < l.length:=by omega
   rw [xa (by omega)] at ux
   generalize hT:wbT t l = T at ux
   have om:=Y hT
   have HY:=Y (U ux)
   clear hT
   obtain ⟨uf,ue,uh,ui,uj,ug,uu,ut⟩:=T
   have c0:wr.cell? (yq w 0) = some (H uf):=(U HY).1 0 _ rfl
   obtain ⟨y0,z0,q0⟩:=ze (U HY).2.2.1 (j:=0) (by omega)
   have c1:wr.cell? (yq w 1) = some (H ue):=(U HY).1 1 _ rfl
   obtain ⟨y1,z1,q1⟩:=ze (U HY).2.2.1 (j:=1) (by omega)
   have c2:wr.cell? (yq w 2) = some (H uh):=(U HY).1 2 _ rfl
   obtain ⟨y2,z2,q2⟩:=ze (U HY).2.2.1 (j:=2) (by omega)
   have c3:wr.cell? (yq w 3) = some (H ui):=(U HY).1 3 _ rfl
   obtain ⟨y3,z3,q3⟩:=ze (U HY).2.2.1 (j:=3) (by omega)
   have c4:wr.cell? (yq w 4) = some (H uj):=(U HY).1 4 _ rfl
   obtain ⟨y4,z4,q4⟩:=ze (U HY).2.2.1 (j:=4) (by omega)
   have c5:wr.cell? (yq w 5) = some (H ug):=(U HY).1 5 _ rfl
   obtain ⟨y5,z5,q5⟩:=ze (U HY).2.2.1 (j:=5) (by omega)
   have c6:wr.cell? (yq w 6) = some (H uu):=(U HY).1 6 _ rfl
   obtain ⟨y6,z6,q6⟩:=ze (U HY).2.2.1 (j:=6) (by omega)
   have c7:wr.cell? (yq w 7) = some (H ut):=(U HY).1 7 _ rfl
   obtain ⟨y7,z7,q7⟩:=ze (U HY).2.2.1 (j:=7) (by omega)
   have xR:=Y (yY wr (w.heap.size + 1 + 1) 0 [H uf,H ue,H uh,H ui,H uj,H ug,H uu,H ut] (fun j R=>(U HY).2.2.1 j R))
   have qf:=Y (zo (w.heap.size + 1 + 1) (by omega) [H uf,H ue,H uh,H ui,H uj,H ug,H uu,H ut] 0 wr (U HY).2.2.2.1)
   clear ux
   go_wp2_with fail
   change bodyPost _ _ _ _ _ (wr.setCells (w.heap.size + 1 + 1) 0 [H uf,H ue,H uh,H ui,H uj,H ug,H uu,H ut])
   generalize wr.setCells (w.heap.size + 1 + 1) 0 [H uf,H ue,H uh,H ui,H uj,H ug,H uu,H ut] = WE at xR qf ⊢
   obtain ⟨d0,d1,d2,d3,d4,d5,d6,d7⟩:=yE (U xR)
   try simp only [Exit.inBlock,Exit.then]
   refine bodyPost_ret (by simp [results,Tryz.results33,go_sem,d0,d1,d2,d3,d4,d5,d6,d7]; try rfl) rfl ?_
   exact ⟨by rw [U om],U qf⟩
structure RunSt where
 n:Int
 l:List Od
 g:List (List Ev)
 t:Tot
def tot0:Tot:=⟨0,0,0,0,0,0,0,0⟩
def aX (s:RunSt) (c:Cm):RunSt:=⟨stN s.n s.l c,stL s.n s.l c,s.g ++ [stE s.n s.l c],wgT s.t (stE s.n s.l c)⟩
def runS (cs:List Cm):RunSt:=cs.foldl aX ⟨1,[],[],tot0⟩
theorem cZ (cs:List Cm) {k:Nat} {c:Cm} (h:cs[k]? = some c):runS (cs.take (k + 1)) = aX (runS (cs.take k)) c:=by
 unfold runS
 rw [List.take_add_one,h,List.foldl_append]; rfl
theorem da (cs:List Cm) (h:cs.length ≤ 200):∀ k,k ≤ cs.length→Inv (runS (cs.take k)).n (runS (cs.take k)).l∧1 ≤ (runS (cs.take k)).n∧(runS (cs.take k)).n ≤ 1 + k∧(runS (cs.take k)).g.length = k:=by
 intro k
 induction k with
 | zero=>intro _; exact ⟨inv_start,by simp [runS],by simp [runS],by simp [runS]⟩
 | succ k ih =>
  intro hk
  obtain ⟨Q,N,h3,h4⟩:=ih (by omega)
  obtain ⟨c,hc⟩:∃ c,cs[k]? = some c:=⟨_,yI (by omega)⟩
  rw [cZ cs hc]
  generalize runS (cs.take k) = s at Q N h3 h4 ⊢
  obtain ⟨i1,i2,i3⟩:=inv_step c Q (by omega) (by omega)
  refine ⟨i1,?_,?_,?_⟩
  ·show 1 ≤ stN s.n s.l c; omega
  ·show stN s.n s.l c ≤ 1 + ((k + 1:Nat):Int); omega
  ·show (s.g ++ [stE s.n s.l c]).length = k + 1; simp [h4]
theorem run_inv (cs:List Cm) (h:cs.length ≤ 200):Inv (runS cs).n (runS cs).l∧1 ≤ (runS cs).n∧(runS cs).n ≤ 1 + cs.length∧(runS cs).g.length = cs.length:=by
 have:=da cs h cs.length tg
 rwa [xa tg] at this
theorem dN {n:Nat}:cntF n = 0 ↔ n ≤ 200:=by
 unfold cntF
 split
 ·constructor
  ·intro h; cases h
  ·intro h; omega
 ·split
  ·constructor
   ·intro h; cases h
   ·intro h; omega
  ·exact ⟨fun _=>by omega,fun _=>rfl⟩
def rsF (cs:List Cm):RunSt:=if cs.length ≤ 200 then { runS cs with t:=wbT (runS cs).t (runS cs).l } else ⟨0,[],[],tot0⟩


end Go.Proofs.YtbakanofkghmiaaGreat
