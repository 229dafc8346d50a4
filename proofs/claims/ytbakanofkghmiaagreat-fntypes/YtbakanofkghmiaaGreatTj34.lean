/-
  What holds of a book along a script: not too many orders, quantities in their bounds, Ids rising and below the next one. No function walked.
-/
import Derived.Test.YtbakanofkghmiaaGreatTj33
set_option linter.unusedVariables false
set_option maxHeartbeats 6400000
set_option maxRecDepth 100000
namespace Go.Proofs.YtbakanofkghmiaaGreat
open Go.RowKit
structure Inv (next:Int) (l:List Od):Prop where
 good:GoodL l
 side:∀ o ∈ l,o.side = 1 ∨ o.side = 2
 ids:∀ o ∈ l,o.id < next
theorem inv_start:Inv 1 []:=⟨⟨by simp,by simp,List.Pairwise.nil⟩,by simp,by simp⟩
theorem hit_ids {l:List Od} {k:Nat} {o:Od} {q:Int} (hk:l[k]? = some o) {b:Int} (h:∀ x ∈ l,x.id < b):∀ x ∈ pO l k o q,x.id < b:=by
 intro x hx
 rw [pO] at hx
 split at hx
 ·rcases List.mem_append.1 hx with Q | Q
  ·exact h x (List.mem_of_mem_take Q)
  ·exact h x (List.mem_of_mem_drop Q)
 ·rcases List.mem_or_eq_of_mem_set hx with Q | rfl
  ·exact h x Q
  ·exact h o (yM hk)
theorem matL_ids {c:Cm} {id b:Int}:∀ (n:Nat) (l:List Od) (left:Int) (ts:List Ev),ax l→GoodL l→0 ≤ left→left ≤ 1000000→(∀ x ∈ l,x.id < b)→∀ x ∈ (matL c id n l left ts).1,x.id < b:=by
 intro n
 induction n with
 | zero=>intro l left ts _ _ _ _ h x hx; exact h x hx
 | succ n ih =>
  intro l left ts hr hg h0 Q h x hx
  rw [matL] at hx
  split at hx
  ·next xH =>
   split at hx
   ·exact h x hx
   ·next o hf =>
    split at hx
    ·obtain ⟨vz,_⟩:=cN hf
     obtain ⟨k,hk⟩:=List.getElem?_of_mem vz
     have hp:=plc_at hr hk
     have qL:(plc l o.id).toNat = k:=by rw [hp]; rfl
     rw [qL] at hx
     have Z:=hg.left o vz
     have hgh:=cw hg hk (qty:=min left o.left) (by omega) (by omega)
     exact ih _ _ _ hgh.1.rise hgh.1 (by omega) (by omega) (hit_ids hk h) x hx
    ·exact h x hx
  ·exact h x hx
theorem inv_step {next:Int} {l:List Od} (c:Cm) (h:Inv next l) (h0:0 ≤ next) (Q:next ≤ 1000000):Inv (stN next l c) (stL next l c)∧next ≤ stN next l c∧stN next l c ≤ next + 1:=by
 rw [stN,stL]
 by_cases hr:refR next l c = 0
 ·rw [if_pos hr]
  by_cases hk:c.k = 1
  ·rw [if_pos ⟨hr,hk⟩,if_pos hk]
   refine ⟨?_,by omega,by omega⟩
   have hq:=bC hr hk
   have hn:=ref_new hr hk
   have hg:=ba (c:=c) (id:=next) 21 l c.q [] h.good (by omega) hq.2
   have hs:=matL_side (c:=c) (id:=next) 21 l c.q [] h.good.rise h.good (by omega) hq.2 h.side
   have hi:=matL_ids (c:=c) (id:=next) (b:=next) 21 l c.q [] h.good.rise h.good (by omega) hq.2 h.ids
   rw [newR] at hn
   split at hn
   ·cases hn
   rename_i uD
   split at hn
   ·cases hn
   split at hn
   ·cases hn
   split at hn
   ·cases hn
   split at hn
   ·cases hn
   split at hn
   ·cases hn
   have uD:c.s = 1 ∨ c.s = 2:=side_of (by simpa using uD)
   generalize matL c next 21 l c.q [] = hb at hg hs hi hn ⊢
   rw [accL]
   split
   ·next hre =>
    rw [matR] at hn
    split at hn
    ·cases hn
    split at hn
    ·cases hn
    split at hn
    ·cases hn
    rw [if_pos ⟨hre.2,hre.1⟩] at hn
    split at hn
    ·cases hn
    rename_i hfu
    have xB:(hb.1 ++ [{ ordO c next with left:=hb.2.1 }]).length ≤ 20:=by
     rcases Nat.lt_or_ge 20 (hb.1 ++ [{ ordO c next with left:=hb.2.1 }]).length with hh | hh
     ·exact absurd (show fullB (hb.1 ++ [{ ordO c next with left:=hb.2.1 }]) = true by rw [fullB]; exact if_pos hh) (by simpa using hfu)
     ·exact hh
    refine ⟨⟨by simpa using xB,?_,?_⟩,?_,?_⟩
    ·intro o Z
     rcases List.mem_append.1 Z with Z | Z
     ·exact hg.1.left o Z
     ·simp at Z; subst Z; exact ⟨hre.1,hg.2.2⟩
    ·refine List.pairwise_append.2 ⟨hg.1.rise,List.pairwise_singleton _ _,fun a ha b F=>?_⟩
     simp at F; subst F; exact hi a ha
    ·intro o Z
     rcases List.mem_append.1 Z with Z | Z
     ·exact hs o Z
     ·simp at Z; subst Z; exact uD
    ·intro o Z
     rcases List.mem_append.1 Z with Z | Z
     ·have:=hi o Z; omega
     ·simp at Z; subst Z; show next < next + 1; omega
   ·exact ⟨hg.1,hs,fun o Z=>by have:=hi o Z; omega⟩
  ·rw [if_neg (fun e=>hk e.2),if_neg hk]
   refine ⟨?_,by omega,by omega⟩
   by_cases hk2:c.k = 2
   ·rw [if_pos hk2]
    obtain ⟨k,o,hp,Z⟩:=ref_id hr (.inl hk2)
    have qL:(plc l c.i).toNat = k:=by rw [hp]; rfl
    simp only [qL,Z]
    have F:=h.good.left o (yM Z)
    exact ⟨(cw h.good Z (qty:=o.left) (by omega) (by omega)).1,hit_side Z h.side,hit_ids Z h.ids⟩
   ·rw [if_neg hk2]
    by_cases hk3:c.k = 3
    ·rw [if_pos hk3]
     obtain ⟨k,o,hp,Z⟩:=ref_id hr (.inr hk3)
     have qL:(plc l c.i).toNat = k:=by rw [hp]; rfl
     simp only [qL,Z]
     have hq:1 ≤ c.q∧c.q ≤ 1000000∧c.q < o.left:=by
      rw [refR,if_neg hk,if_neg hk2,if_pos hk3] at hr
      split at hr
      ·rw [redR] at hr
       split at hr
       ·next F =>
        rw [hp] at hr
        simp only [Int.toNat_natCast,Z] at hr
        split at hr
        ·cases hr
        ·split at hr
         ·cases hr
         ·have:1 ≤ c.q∧c.q ≤ 1000000:=by simpa [betB] using F
          omega
       ·cases hr
      ·cases hr
     have vz:∀ x ∈ l.set k { o with left:=c.q },∃ y ∈ l,x.id = y.id∧x.side = y.side∧(x.left = y.left ∨ x.left = c.q):=by
      intro x hx
      rcases List.mem_or_eq_of_mem_set hx with Q | rfl
      ·exact ⟨x,Q,rfl,rfl,.inl rfl⟩
      ·exact ⟨o,yM Z,rfl,rfl,.inr rfl⟩
     refine ⟨⟨by simpa using h.good.len,?_,?_⟩,?_,?_⟩
     ·intro x hx
      obtain ⟨y,hy,_,_,h3⟩:=vz x hx
      have:=h.good.left y hy
      rcases h3 with h3 | h3 <;> omega
     ·have js:=h.good.rise
      rw [ax,List.pairwise_iff_getElem] at js ⊢
      intro i j hi R ph
      have qe:i < l.length:=by simpa using hi
      have hj':j < l.length:=by simpa using R
      have key:∀ i (hi:i < (l.set k { o with left:=c.q }).length),((l.set k { o with left:=c.q })[i]).id = (l[i]'(by simpa using hi)).id:=by
       intro i hi
       rw [List.getElem_set]
       split
       ·next e=>subst e; have:=yE.1 Z; obtain ⟨_,rfl⟩:=this; rfl
       ·rfl
      rw [key i hi,key j R]
      exact js i j qe hj' ph
     ·intro x hx
      obtain ⟨y,hy,_,N,_⟩:=vz x hx
      rw [N]; exact h.side y hy
     ·intro x hx
      obtain ⟨y,hy,N,_,_⟩:=vz x hx
      rw [N]; exact h.ids y hy
    ·rw [if_neg hk3]
     have hsub:∀ x ∈ l.filter ndy,x ∈ l:=fun x hx=>(List.mem_filter.1 hx).1
     exact ⟨⟨yL (List.length_filter_le _ _) h.good.len,fun o Z=>h.good.left o (hsub o Z),List.Pairwise.filter _ h.good.rise⟩,fun o Z=>h.side o (hsub o Z),fun o Z=>h.ids o (hsub o Z)⟩
 ·rw [if_neg (fun e=>hr e.1),if_neg hr]
  exact ⟨h,by omega,by omega⟩
def cntO (t:Tot) (o:Od):Tot:={ t with li:=wrap64 (t.li + 1),le:=wrap64 (t.le + o.left) }
def wbT (t:Tot) (l:List Od):Tot:=l.foldl cntO t
theorem wb_step (t:Tot) (l:List Od) {k:Nat} {o:Od} (h:l[k]? = some o):wbT t (l.take (k + 1)) = cntO (wbT t (l.take k)) o:=by
 unfold wbT
 rw [List.take_add_one,h,List.foldl_append]; rfl
def cntF (n:Nat):Int:=if 4096 < n then 2 else if 200 < n then 7 else 0
theorem countFault_any (n:Nat) (hn:n ≤ 1073741824) (w:World):Calls Tryz.prog 31 #[H n] w fun r w'=>r = yl (H (cntF n))∧w' = w:=by
 have HF:=Y (cntF.eq_1 n)
 generalize cntF n = hb at HF ⊢
 by_cases Q:4096 < n
 ·have qC:Hid (hb = 2):=(U HF).trans (if_pos Q)
  have kZ:(4096:Int) < n:=by omega
  clear HF
  go_enter Tryz.func31,Tryz.ntmps31
  go_wp2_with fail
  exact ⟨rfl,H hb,by rw [U qC]; simp [results,Tryz.results31,go_sem],rfl,rfl⟩
 ·have kZ:¬ (4096:Int) < n:=by omega
  by_cases N:200 < n
  ·have qC:Hid (hb = 7):=(U HF).trans ((if_neg Q).trans (if_pos N))
   have pH:(200:Int) < n:=by omega
   clear HF
   go_enter Tryz.func31,Tryz.ntmps31
   go_wp2_with fail
   exact ⟨rfl,H hb,by rw [U qC]; simp [results,Tryz.results31,go_sem],rfl,rfl⟩
  ·have qC:Hid (hb = 0):=(U HF).trans ((if_neg Q).trans (if_neg N))
   have pH:¬ (200:Int) < n:=by omega
   clear HF
   go_enter Tryz.func31,Tryz.ntmps31
   go_wp2_with fail
   exact ⟨rfl,H hb,by rw [U qC]; simp [results,Tryz.results31,go_sem],rfl,rfl⟩
theorem keepB {w W:World} {S:Nat} {cs:List Value} (h:W.rangeAt S 0 cs∧W.there S 0 8∧W.there (S + 1 + 1) 0 8∧Below S w W∧S + 1 + 1 + 1 ≤ W.heap.size) (j:Nat) (R:j < cs.length) (u:Value):(W.setCell (J S j) u).rangeAt S 0 (cs.set j u)∧(W.setCell (J S j) u).there S 0 8∧(W.setCell (J S j) u).there (S + 1 + 1) 0 8∧Below S w (W.setCell (J S j) u)∧S + 1 + 1 + 1 ≤ (W.setCell (J S j) u).heap.size :=
 ⟨bc h.1 R,zB h.2.1,zB h.2.2.1,h.2.2.2.1.setCell (p:=(J S j)) qt _,by simp only [World.setCell,Array.size_modify]; exact h.2.2.2.2⟩
theorem withBook_any (t:Tot) (next:Int) (v:Value) (l:List Od) (w:World) (hr:RdR Od.vs 6 w v l) :
  Calls Tryz.prog 33 #[.agg #[H t.gr,H t.ac,H t.rf,H t.tr,H t.vo,H t.no,H t.li,H t.le],.agg #[H next,v]] w fun r w'=>r = yl (.agg #[H (wbT t l).gr,H (wbT t l).ac,H (wbT t l).rf,H (wbT t l).tr,H (wbT t l).vo,H (wbT t l).no,H (wbT t l).li,H (wbT t l).le])∧ym w w':=by
 obtain ⟨a,E,rfl,xB,hc⟩:=hr
 have xo:∀ (k:Nat) (c:Od),l[k]? = some c→∃ b off,a = some (J b off)∧b < w.heap.size∧w.rangeAt b (off + k * 6) c.vs:=by
  intro k c hk
  obtain ⟨b,off,Q,N,h3⟩:=hc (by intro h; rw [h] at hk; simp at hk)
  exact ⟨b,off,Q,N,h3 k c hk⟩
 have HC:=Y xo
 clear xo hc
 have hsf:=sfl
 have xy:=zf w (D #[H t.gr,H t.ac,H t.rf,H t.tr,H t.vo,H t.no,H t.li,H t.le] 30)
 have xY:((w.alloc (D #[H t.gr,H t.ac,H t.rf,H t.tr,H t.vo,H t.no,H t.li,H t.le] 30)).alloc (D #[H next,.slice a l.length E] 28)).heap.size = w.heap.size + 1 + 1:=by rw [zf,xy]
 have jg:(((w.alloc (D #[H t.gr,H t.ac,H t.rf,H t.tr,H t.vo,H t.no,H t.li,H t.le] 30)).alloc (D #[H next,.slice a l.length E] 28)).alloc (D #[H 0,H 0,H 0,H 0,H 0,H 0,H 0,H 0] 30)).heap.size = w.heap.size + 1 + 1 + 1:=by rw [zf,xY]
 have r1:=zg w [H t.gr,H t.ac,H t.rf,H t.tr,H t.vo,H t.no,H t.li,H t.le] 30
 have t1:=zt w [H t.gr,H t.ac,H t.rf,H t.tr,H t.vo,H t.no,H t.li,H t.le] 30
 have r2:=zg (w.alloc (D #[H t.gr,H t.ac,H t.rf,H t.tr,H t.vo,H t.no,H t.li,H t.le] 30)) [H next,.slice a l.length E] 28
 have t3:=zt ((w.alloc (D #[H t.gr,H t.ac,H t.rf,H t.tr,H t.vo,H t.no,H t.li,H t.le] 30)).alloc (D #[H next,.slice a l.length E] 28)) [H 0,H 0,H 0,H 0,H 0,H 0,H 0,H 0] 30
 rw [xY] at t3
 rw [xy] at r2
 have b1:=dm w (D #[H t.gr,H t.ac,H t.rf,H t.tr,H t.vo,H t.no,H t.li,H t.le] 30)
 have b2:Below (w.heap.size + 1) (w.alloc (D #[H t.gr,H t.ac,H t.rf,H t.tr,H t.vo,H t.no,H t.li,H t.le] 30)) ((w.alloc (D #[H t.gr,H t.ac,H t.rf,H t.tr,H t.vo,H t.no,H t.li,H t.le] 30)).alloc (D #[H next,.slice a l.length E] 28)):=(Below.refl _ _).alloc (by omega) _
 have b3:Below (w.heap.size + 1 + 1) ((w.alloc (D #[H t.gr,H t.ac,H t.rf,H t.tr,H t.vo,H t.no,H t.li,H t.le] 30)).alloc (D #[H next,.slice a l.length E] 28)) (((w.alloc (D #[H t.gr,H t.ac,H t.rf,H t.tr,H t.vo,H t.no,H t.li,H t.le] 30)).alloc (D #[H next,.slice a l.length E] 28)).alloc (D #[H 0,H 0,H 0,H 0,H 0,H 0,H 0,H 0] 30)):=(Below.refl _ _).alloc (by omega) _
 have HX:Hid (_∧_∧_∧_∧_):=⟨zb (zb r1 b2 (by omega)) b3 (by omega),ze (ze t1 b2 (by omega)) b3 (by omega),t3,(b1.trans (b2.mono (by omega))).trans (b3.mono (by omega)),Nat.le_of_eq jg.symm⟩
 have HBK:=Y (zb r2 b3 (by omega))
 clear xy xY jg r1 r2 t1 t3 b1 b2 b3
 go_enter Tryz.func33,Tryz.ntmps33
 refine ds fun tg xq=>?_
 go_wp2_with fail
 refine U xq _ _ ?_
 clear xq
 generalize (((w.alloc (D #[H t.gr,H t.ac,H t.rf,H t.tr,H t.vo,H t.no,H t.li,H t.le] 30)).alloc (D #[H next,.slice a l.length E] 28)).alloc (D #[H 0,H 0,H 0,H 0,H 0,H 0,H 0,H 0] 30)) = hD at HX HBK ⊢
 have HX:Hid ((hD).rangeAt w.heap.size 0 (wbT t (l.take 0)).vs∧(hD).there w.heap.size 0 8∧(hD).there (w.heap.size + 1 + 1) 0 8∧ym w (hD)∧w.heap.size + 1 + 1 + 1 ≤ (hD).heap.size):=U HX
 have c0:hD.cell? (J (w.heap.size + 1) 0) = some (H next):=U HBK 0 _ rfl
 have c1:hD.cell? (J (w.heap.size + 1) 1) = some (.slice a l.length E):=U HBK 1 _ rfl
 go_wp2_with fail
 clear c0 c1
 go_loopw [10] (fun iv wr=>∃ (k:Nat),k ≤ l.length∧iv = H k∧Hid ((wr).rangeAt w.heap.size 0 (wbT t (l.take k)).vs∧(wr).there w.heap.size 0 8∧(wr).there (w.heap.size + 1 + 1) 0 8∧ym w (wr)∧w.heap.size + 1 + 1 + 1 ≤ (wr).heap.size)) (fun iv _=>l.length - (intOf iv).toNat)
 case atStart=>exact ⟨0,Nat.zero_le _,rfl,U HX⟩
 case round =>
  obtain ⟨k,hk,rfl,uq⟩:=hrel
  by_cases xH:k < l.length
  ·obtain ⟨e,qV⟩:∃ e,l[k]? = some e:=⟨_,yF xH⟩
   obtain ⟨b,off,rfl,F,L⟩:=U HC k e qV
   have qv:=Y (wb_step t l qV)
   have uu:(k:Int) < l.length:=by omega
   have hse:=(U uq).2.2.2.2
   obtain ⟨g0,g1,g2,g3,g4,g5⟩:=zC (zb L (U uq).2.2.2.1 F)
   have vi:=dm wr (D (yu e.id e.side e.ticks e.left e.life e.tag).toArray 49)
   have HY:Hid (((wr.alloc (D (yu e.id e.side e.ticks e.left e.life e.tag).toArray 49))).rangeAt w.heap.size 0 (wbT t (l.take k)).vs∧((wr.alloc (D (yu e.id e.side e.ticks e.left e.life e.tag).toArray 49))).there w.heap.size 0 8∧((wr.alloc (D (yu e.id e.side e.ticks e.left e.life e.tag).toArray 49))).there (w.heap.size + 1 + 1) 0 8∧ym w ((wr.alloc (D (yu e.id e.side e.ticks e.left e.life e.tag).toArray 49)))∧w.heap.size + 1 + 1 + 1 ≤ ((wr.alloc (D (yu e.id e.side e.ticks e.left e.life e.tag).toArray 49))).heap.size):=⟨zb (U uq).1 vi (by omega),ze (U uq).2.1 vi (by omega),ze (U uq).2.2.1 vi (by omega),(U uq).2.2.2.1.trans (vi.mono (by omega)),yL hse vi.size⟩
   generalize wbT t (l.take k) = T at qv HY
   obtain ⟨ua,xZ,uc,ud,ue,ub,uo,un⟩:=T
   have xA:w.heap.size ≠ wr.heap.size:=by omega
   have hne':wr.heap.size ≠ w.heap.size:=by omega
   have d6:(wr.alloc (D (yu e.id e.side e.ticks e.left e.life e.tag).toArray 49)).cell? (yp w 6) = some (H uo):=(U HY).1 6 _ rfl
   have p6:(wr.alloc (D (yu e.id e.side e.ticks e.left e.life e.tag).toArray 49)).frozen? (yp w 6) = false:=by have:=((U HY).2.1 6 (by omega)).2; rwa [Nat.zero_add] at this
   have d7:(wr.alloc (D (yu e.id e.side e.ticks e.left e.life e.tag).toArray 49)).cell? (yp w 7) = some (H un):=(U HY).1 7 _ rfl
   have p7:(wr.alloc (D (yu e.id e.side e.ticks e.left e.life e.tag).toArray 49)).frozen? (yp w 7) = false:=by have:=((U HY).2.1 7 (by omega)).2; rwa [Nat.zero_add] at this
   clear qV L F vi
   have HN:Hid (wbT t (l.take (k + 1)) = ⟨ua,xZ,uc,ud,ue,ub,wrap64 (uo + 1),wrap64 (un + e.left)⟩):=U qv
   clear qv
   go_wp2_with fail
   go_roundw
   case rel=>exact ⟨k + 1,by omega,by go_num,by rw [U HN]; exact keepB (keepB (U HY) 6 (by simp [Tot.vs]) _) 7 (by simp [Tot.vs]) _⟩
   case measure=>simp [intOf]; omega
  ·have uu:¬ (k:Int) < l.length:=by omega
   rw [yX (by omega)] at uq
   generalize hT:wbT t l = T at uq
   have kO:=Y hT
   have HY:=Y (U uq)
   clear hT
   obtain ⟨ua,xZ,uc,ud,ue,ub,uo,un⟩:=T
   have c0:wr.cell? (yp w 0) = some (H ua):=(U HY).1 0 _ rfl
   obtain ⟨y0,z0,q0⟩:=zc (U HY).2.2.1 (j:=0) (by omega)
   have c1:wr.cell? (yp w 1) = some (H xZ):=(U HY).1 1 _ rfl
   obtain ⟨y1,z1,q1⟩:=zc (U HY).2.2.1 (j:=1) (by omega)
   have c2:wr.cell? (yp w 2) = some (H uc):=(U HY).1 2 _ rfl
   obtain ⟨y2,z2,q2⟩:=zc (U HY).2.2.1 (j:=2) (by omega)
   have c3:wr.cell? (yp w 3) = some (H ud):=(U HY).1 3 _ rfl
   obtain ⟨y3,z3,q3⟩:=zc (U HY).2.2.1 (j:=3) (by omega)
   have c4:wr.cell? (yp w 4) = some (H ue):=(U HY).1 4 _ rfl
   obtain ⟨y4,z4,q4⟩:=zc (U HY).2.2.1 (j:=4) (by omega)
   have c5:wr.cell? (yp w 5) = some (H ub):=(U HY).1 5 _ rfl
   obtain ⟨y5,z5,q5⟩:=zc (U HY).2.2.1 (j:=5) (by omega)
   have c6:wr.cell? (yp w 6) = some (H uo):=(U HY).1 6 _ rfl
   obtain ⟨y6,z6,q6⟩:=zc (U HY).2.2.1 (j:=6) (by omega)
   have c7:wr.cell? (yp w 7) = some (H un):=(U HY).1 7 _ rfl
   obtain ⟨y7,z7,q7⟩:=zc (U HY).2.2.1 (j:=7) (by omega)
   have xN:=Y (yV wr (w.heap.size + 1 + 1) 0 [H ua,H xZ,H uc,H ud,H ue,H ub,H uo,H un] (fun j R=>(U HY).2.2.1 j R))
   have vX:=Y (zm (w.heap.size + 1 + 1) (by omega) [H ua,H xZ,H uc,H ud,H ue,H ub,H uo,H un] 0 wr (U HY).2.2.2.1)
   clear uq
   go_wp2_with fail
   change bodyPost _ _ _ _ _ (wr.setCells (w.heap.size + 1 + 1) 0 [H ua,H xZ,H uc,H ud,H ue,H ub,H uo,H un])
   generalize wr.setCells (w.heap.size + 1 + 1) 0 [H ua,H xZ,H uc,H ud,H ue,H ub,H uo,H un] = WE at xN vX ⊢
   obtain ⟨d0,d1,d2,d3,d4,d5,d6,d7⟩:=yB (U xN)
   try simp only [Exit.inBlock,Exit.then]
   refine bodyPost_ret (by simp [results,Tryz.results33,go_sem,d0,d1,d2,d3,d4,d5,d6,d7]; try rfl) rfl ?_
   exact ⟨by rw [U kO],U vX⟩
structure RunSt where
 n:Int
 l:List Od
 g:List (List Ev)
 t:Tot
def tot0:Tot:=⟨0,0,0,0,0,0,0,0⟩
def rstep (s:RunSt) (c:Cm):RunSt:=⟨stN s.n s.l c,stL s.n s.l c,s.g ++ [stE s.n s.l c],wgT s.t (stE s.n s.l c)⟩
def runS (cs:List Cm):RunSt:=cs.foldl rstep ⟨1,[],[],tot0⟩
theorem cz (cs:List Cm) {k:Nat} {c:Cm} (h:cs[k]? = some c):runS (cs.take (k + 1)) = rstep (runS (cs.take k)) c:=by
 unfold runS
 rw [List.take_add_one,h,List.foldl_append]; rfl
theorem run_take (cs:List Cm) (h:cs.length ≤ 200):∀ k,k ≤ cs.length→Inv (runS (cs.take k)).n (runS (cs.take k)).l∧1 ≤ (runS (cs.take k)).n∧(runS (cs.take k)).n ≤ 1 + k∧(runS (cs.take k)).g.length = k:=by
 intro k
 induction k with
 | zero=>intro _; exact ⟨inv_start,by simp [runS],by simp [runS],by simp [runS]⟩
 | succ k ih =>
  intro hk
  obtain ⟨Q,N,h3,h4⟩:=ih (by omega)
  obtain ⟨c,hc⟩:∃ c,cs[k]? = some c:=⟨_,yF (by omega)⟩
  rw [cz cs hc]
  generalize runS (cs.take k) = s at Q N h3 h4 ⊢
  obtain ⟨i1,i2,i3⟩:=inv_step c Q (by omega) (by omega)
  refine ⟨i1,?_,?_,?_⟩
  ·show 1 ≤ stN s.n s.l c; omega
  ·show stN s.n s.l c ≤ 1 + ((k + 1:Nat):Int); omega
  ·show (s.g ++ [stE s.n s.l c]).length = k + 1; simp [h4]
theorem run_inv (cs:List Cm) (h:cs.length ≤ 200):Inv (runS cs).n (runS cs).l∧1 ≤ (runS cs).n∧(runS cs).n ≤ 1 + cs.length∧(runS cs).g.length = cs.length:=by
 have:=run_take cs h cs.length qt
 rwa [yX qt] at this
theorem cntF_zero {n:Nat}:cntF n = 0 ↔ n ≤ 200:=by
 unfold cntF
 split
 ·constructor
  ·intro h; cases h
  ·intro h; omega
 ·split
  ·constructor
   ·intro h; cases h
   ·intro h; omega
  ·exact ⟨fun _=>by omega,fun _=>rfl⟩
def rsF (cs:List Cm):RunSt:=if cs.length ≤ 200 then { runS cs with t:=wbT (runS cs).t (runS cs).l } else ⟨0,[],[],tot0⟩
theorem box3 (w:World) (bl cl rl:List Value) (T1 T2 T3:TypeId):(((w.alloc (Obj.cells bl.toArray T1)).alloc (Obj.cells cl.toArray T2)).alloc (Obj.cells rl.toArray T3)).heap.size = w.heap.size + 3∧World.rangeAt (((w.alloc (Obj.cells bl.toArray T1)).alloc (Obj.cells cl.toArray T2)).alloc (Obj.cells rl.toArray T3)) w.heap.size 0 bl∧World.rangeAt (((w.alloc (Obj.cells bl.toArray T1)).alloc (Obj.cells cl.toArray T2)).alloc (Obj.cells rl.toArray T3)) (w.heap.size + 1) 0 cl∧World.rangeAt (((w.alloc (Obj.cells bl.toArray T1)).alloc (Obj.cells cl.toArray T2)).alloc (Obj.cells rl.toArray T3)) (w.heap.size + 1 + 1) 0 rl∧World.there (((w.alloc (Obj.cells bl.toArray T1)).alloc (Obj.cells cl.toArray T2)).alloc (Obj.cells rl.toArray T3)) (w.heap.size + 1 + 1) 0 rl.length∧ym w (((w.alloc (Obj.cells bl.toArray T1)).alloc (Obj.cells cl.toArray T2)).alloc (Obj.cells rl.toArray T3)):=by
 have xy:=zf w (Obj.cells bl.toArray T1)
 have xY:((w.alloc (Obj.cells bl.toArray T1)).alloc (Obj.cells cl.toArray T2)).heap.size = w.heap.size + 1 + 1:=by rw [zf,xy]
 have r1:=zg w bl T1
 have r2:=zg (w.alloc (Obj.cells bl.toArray T1)) cl T2
 have r3:=zg ((w.alloc (Obj.cells bl.toArray T1)).alloc (Obj.cells cl.toArray T2)) rl T3
 have t3:=zt ((w.alloc (Obj.cells bl.toArray T1)).alloc (Obj.cells cl.toArray T2)) rl T3
 have b1:=dm w (Obj.cells bl.toArray T1)
 have b2:Below (w.alloc (Obj.cells bl.toArray T1)).heap.size (w.alloc (Obj.cells bl.toArray T1)) ((w.alloc (Obj.cells bl.toArray T1)).alloc (Obj.cells cl.toArray T2)):=dm _ _
 have b3:Below ((w.alloc (Obj.cells bl.toArray T1)).alloc (Obj.cells cl.toArray T2)).heap.size ((w.alloc (Obj.cells bl.toArray T1)).alloc (Obj.cells cl.toArray T2)) (((w.alloc (Obj.cells bl.toArray T1)).alloc (Obj.cells cl.toArray T2)).alloc (Obj.cells rl.toArray T3)):=dm _ _
 rw [xy] at r2
 rw [xY] at r3 t3
 refine ⟨by rw [zf,xY],zb (zb r1 b2 (by omega)) b3 (by omega),zb r2 b3 (by omega),r3,t3,b1.trans ((dq b2 b3).mono b1.size)⟩
theorem there_blk {W W':World} {b o n:Nat} (h:W.there b o n) (F:W'.heap[b]? = W.heap[b]?):W'.there b o n:=fun j R=>by
 rw [yO (a:=(J b (o + j))) F,World.frozen?_of_block (a:=(J b (o + j))) F]; exact h j R
end Go.Proofs.YtbakanofkghmiaaGreat
