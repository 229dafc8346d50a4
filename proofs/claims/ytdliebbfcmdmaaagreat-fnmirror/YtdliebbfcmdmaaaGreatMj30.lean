/-
  Scripts in a mirror: the same groups but for sides and prices. No function walked.
-/
import Derived.Test.YtdliebbfcmdmaaaGreatMj29
set_option linter.unusedVariables false
set_option maxHeartbeats 6400000
set_option maxRecDepth 100000
namespace Go.Proofs.YtdliebbfcmdmaaaGreat
open Go.RowKit
theorem same_new {c:Cm} (Q:c.k = 1):aB ⟨1,c.s,c.t,c.l,c.q,0,c.p,c.g⟩ c = decide (c.i = 0):=by
 rw [aB]
 simp only [Q,beq_self_eq_true,Bool.true_and,decide_true,Bool.and_true]
 by_cases hi:c.i = 0
 ·rw [hi]; rfl
 ·rw [decide_eq_false hi]
  simpa using fun e=>hi e.symm
theorem side_in {s:Int} (h:betB s 1 2 = true):s = 1 ∨ s = 2:=by simp [betB] at h; omega
theorem side_out (s:Int):betB (3 - s) 1 2 = betB s 1 2:=by
 rw [Bool.eq_iff_iff]; simp [betB]; omega
theorem prc_mir {c d:Cm} (h:CmM c d) (hk:c.k = 1):prcB d = prcB c:=by
 rw [prcB,prcB,h.t]
 by_cases ht:c.t = 2
 ·rw [if_pos ht,if_pos ht,h.m hk ht]
 ·rw [if_neg ht,if_neg ht,(h.p hk ht).1,(h.p hk ht).2.1]
theorem ord_mir {c d:Cm} (h:CmM c d) (hk:c.k = 1) (ht:c.t ≠ 2) (n left:Int):(⟨n,d.s,tk d.p,left,d.l,d.g⟩:Od) = mO ⟨n,c.s,tk c.p,left,c.l,c.g⟩:=by
 rw [h.s hk,(h.p hk ht).2.2,h.l,h.g]; rfl
theorem rest_not2 {t:Int} (h:aA t = true):t ≠ 2:=by
 simp [aA] at h; omega
theorem new_mir {c d:Cm} (h:CmM c d) (hk:c.k = 1) {l:List Od} (hg:GoodL l) (n:Int):newR n (l.map mO) d = newR n l c:=by
 rw [newR,newR,h.s hk,side_out,h.t,prc_mir h hk,h.q,h.g]
 have oq:lifW d = lifW c:=by rw [lifW,lifW,h.l,h.t]
 rw [oq]
 by_cases Q:betB c.s 1 2 = false
 ·rw [if_pos Q,if_pos Q]
 ·rw [if_neg Q,if_neg Q]
  have hs:c.s = 1 ∨ c.s = 2:=side_in (by simpa using Q)
  by_cases N:betB c.t 1 5 = false
  ·rw [if_pos N,if_pos N]
  ·rw [if_neg N,if_neg N]
   by_cases h3:lifW c = true
   ·rw [if_pos h3,if_pos h3]
   ·rw [if_neg h3,if_neg h3]
    by_cases h4:prcB c = false
    ·rw [if_pos h4,if_pos h4]
    ·rw [if_neg h4,if_neg h4]
     by_cases h5:betB c.q 1 1000000 = false
     ·rw [if_pos h5,if_pos h5]
     ·rw [if_neg h5,if_neg h5]
      have hq:1 ≤ c.q∧c.q ≤ 1000000:=by simp [betB] at h5; omega
      by_cases h6:tagB c.g = false
      ·rw [if_pos h6,if_pos h6]
      ·rw [if_neg h6,if_neg h6]
       obtain ⟨m1,m2,m3⟩:=mat_mir h hk hs n 21 l c.q [] [] hg (by omega) hq.2 True.intro
       rw [matR,matR,m1,m2,esM_len m3,h.t]
       by_cases hr:aA c.t = true∧0 < (matL c n 21 l c.q []).2.1
       ·rw [if_pos hr,if_pos hr]
        have e:({ ordO d n with left:=(matL c n 21 l c.q []).2.1 }:Od) = mO { ordO c n with left:=(matL c n 21 l c.q []).2.1 }:=ord_mir h hk (rest_not2 hr.1) n _
        have e2:(matL c n 21 l c.q []).1.map mO ++ [{ ordO d n with left:=(matL c n 21 l c.q []).2.1 }] = ((matL c n 21 l c.q []).1 ++ [{ ordO c n with left:=(matL c n 21 l c.q []).2.1 }]).map mO:=by
         rw [List.map_append,e]; rfl
        rw [e2,full_mir]
       ·rw [if_neg hr,if_neg hr]
theorem at_mir (l:List Od) (k:Nat):(l.map mO)[k]? = (l[k]?).map mO:=List.getElem?_map ..
theorem ref_mir {c d:Cm} (h:CmM c d) {l:List Od} (hg:GoodL l) (n:Int):refR n (l.map mO) d = refR n l c:=by
 by_cases hk:c.k = 1
 ·have hd:d.k = 1:=by rw [h.k]; exact hk
  rw [refR,refR,if_pos hk,if_pos hd,same_new hk,same_new hd,h.i,new_mir h hk hg]
 ·obtain rfl:=h.o hk
  rw [refR,refR,if_neg hk,if_neg hk]
  have e1:idR (l.map mO) d.i = idR l d.i:=by rw [idR,idR,plc_mir]
  have e2:redR (l.map mO) d.i d.q = redR l d.i d.q:=by
   rw [redR,redR,plc_mir,at_mir]
   cases l[(plc l d.i).toNat]? <;> rfl
  rw [e1,e2]
theorem step_mir {c d:Cm} (h:CmM c d) {l:List Od} (hg:GoodL l) (n:Int):stN n (l.map mO) d = stN n l c∧stL n (l.map mO) d = (stL n l c).map mO∧EsM (stE n l c) (stE n (l.map mO) d):=by
 have hr:=ref_mir h hg n
 refine ⟨by rw [stN,stN,hr,h.k],?_⟩
 rw [stL,stL,stE,stE,hr]
 by_cases h0:refR n l c = 0
 ·rw [if_pos h0,if_pos h0,if_pos h0,if_pos h0,h.k]
  by_cases hk:c.k = 1
  ·rw [if_pos hk,if_pos hk,if_pos hk,if_pos hk]
   have hq:=bY h0 hk
   have hn:=ref_new h0 hk
   have hs:c.s = 1 ∨ c.s = 2:=by
    rw [newR] at hn
    split at hn
    ·cases hn
    ·next L=>exact side_in (by simpa using L)
   obtain ⟨m1,m2,m3⟩:=mat_mir h hk hs n 21 l c.q [] [] hg (by omega) hq.2 True.intro
   rw [h.q]
   generalize matL c n 21 l c.q [] = qt at m1 m2 m3 ⊢
   generalize matL d n 21 (l.map mO) c.q [] = F' at m1 m2 m3 ⊢
   refine ⟨?_,?_⟩
   ·rw [accL,accL,m1,m2,h.t]
    by_cases L:0 < qt.2.1∧aA c.t = true
    ·rw [if_pos L,if_pos L,ord_mir h hk (rest_not2 L.2),List.map_append]; rfl
    ·rw [if_neg L,if_neg L]
   ·rw [accE,accE,m2,h.t,List.cons_append,List.cons_append]
    refine ⟨⟨rfl,rfl,rfl,rfl,rfl,fun k=>absurd (show (1:Int) = 3 from k) (by decide)⟩,esM_app m3 (esM_self fun e he=>?_)⟩
    split at he
    ·rw [List.mem_singleton.1 he]
     show (if aA c.t = true then (4:Int) else 5) ≠ 3
     split <;> decide
    ·cases he
  ·obtain rfl:=h.o hk
   rw [if_neg hk,if_neg hk,if_neg hk,if_neg hk]
   by_cases N:d.k = 2
   ·rw [if_pos N,if_pos N,if_pos N,if_pos N,plc_mir,at_mir]
    cases Z:l[(plc l d.i).toNat]? with
    | none=>exact ⟨rfl,True.intro⟩
    | some o =>
     simp only [Option.map_some]
     refine ⟨?_,esM_self fun e he=>?_⟩
     ·exact hit_mir l _ o o.left
     ·rw [List.mem_singleton.1 he]; exact (show (6:Int) ≠ 3 by decide)
   ·rw [if_neg N,if_neg N,if_neg N,if_neg N]
    by_cases h3:d.k = 3
    ·rw [if_pos h3,if_pos h3,if_pos h3,if_pos h3,plc_mir,at_mir]
     refine ⟨?_,esM_self fun e he=>?_⟩
     ·cases Z:l[(plc l d.i).toNat]? with
      | none=>rfl
      | some o=>simp only [Option.map_some]; rw [List.map_set]; rfl
     ·rw [List.mem_singleton.1 he]; exact (show (7:Int) ≠ 3 by decide)
    ·rw [if_neg h3,if_neg h3,if_neg h3,if_neg h3]
     have f1:(l.map mO).filter ndy = (l.filter ndy).map mO:=dq (fun o=>rfl) l
     have f2:(l.map mO).filter dyB = (l.filter dyB).map mO:=dq (fun o=>rfl) l
     rw [f1,f2,List.length_map,List.map_map]
     refine ⟨rfl,?_⟩
     have f3:(l.filter dyB).map (expE ∘ mO) = (l.filter dyB).map expE:=List.map_congr_left fun o _=>rfl
     rw [f3]
     refine esM_self fun e he=>?_
     rcases List.mem_cons.1 he with rfl | he
     ·exact (show (8:Int) ≠ 3 by decide)
     ·obtain ⟨o,_,rfl⟩:=List.mem_map.1 he
      exact (show (9:Int) ≠ 3 by decide)
 ·rw [if_neg h0,if_neg h0,if_neg h0,if_neg h0]
  exact ⟨rfl,⟨rfl,rfl,rfl,rfl,rfl,fun k=>absurd (show (2:Int) = 3 from k) (by decide)⟩,True.intro⟩
def CsM:List Cm→List Cm→Prop
 | [],[]=>True
 | c :: cs,d :: ds=>CmM c d∧CsM cs ds
 | _,_=>False
theorem csM_at:∀ {cs ds:List Cm},CsM cs ds→∀ (k:Nat) (c:Cm),cs[k]? = some c→∃ d,ds[k]? = some d∧CmM c d
 | [],[],_,_,_,e=>by simp at e
 | a :: _,b :: _,h,0,c,e=>⟨b,rfl,by simp at e; rw [← e]; exact h.1⟩
 | _ :: cs,_ :: ds,h,k + 1,c,e=>csM_at h.2 k c (by simpa using e)
 | [],_ :: _,h,_,_,_=>h.elim
 | _ :: _,[],h,_,_,_=>h.elim
theorem run_mir (cs ds:List Cm) (hm:CsM cs ds) (h:cs.length ≤ 200):∀ k,k ≤ cs.length→(runS (ds.take k)).n = (runS (cs.take k)).n∧(runS (ds.take k)).l = (runS (cs.take k)).l.map mO∧(runS (ds.take k)).g.length = k ∧
  ∀ (i:Nat) (es:List Ev),(runS (cs.take k)).g[i]? = some es→∃ fs,(runS (ds.take k)).g[i]? = some fs∧EsM es fs:=by
 intro k
 induction k with
 | zero=>intro _; exact ⟨rfl,rfl,rfl,fun i es hi=>by simp [runS] at hi⟩
 | succ k ih =>
  intro hk
  obtain ⟨a,b,g,f⟩:=ih (by omega)
  obtain ⟨c,hc⟩:∃ c,cs[k]? = some c:=⟨_,yH (by omega)⟩
  obtain ⟨d,hd,hcd⟩:=csM_at hm k c hc
  have kX:(runS (cs.take k)).g.length = k:=(cO cs h k (by omega)).2.2.2
  have hgood:=(cO cs h k (by omega)).1.good
  rw [cB cs hc,cB ds hd]
  obtain ⟨s1,s2,s3⟩:=step_mir hcd hgood (runS (cs.take k)).n
  refine ⟨?_,?_,?_,fun i es hi=>?_⟩
  ·show stN (runS (ds.take k)).n (runS (ds.take k)).l d = stN (runS (cs.take k)).n (runS (cs.take k)).l c
   rw [a,b]; exact s1
  ·show stL (runS (ds.take k)).n (runS (ds.take k)).l d = (stL (runS (cs.take k)).n (runS (cs.take k)).l c).map mO
   rw [a,b]; exact s2
  ·show ((runS (ds.take k)).g ++ [_]).length = k + 1
   rw [yP,g]; rfl
  ·have vy:((runS (cs.take k)).g ++ [stE (runS (cs.take k)).n (runS (cs.take k)).l c])[i]? = some es:=hi
   show ∃ fs,((runS (ds.take k)).g ++ [stE (runS (ds.take k)).n (runS (ds.take k)).l d])[i]? = some fs∧_
   by_cases hik:i < k
   ·rw [List.getElem?_append_left (by omega)] at vy ⊢
    exact f i es vy
   ·rw [List.getElem?_append_right (by omega),kX] at vy
    rw [List.getElem?_append_right (by omega),g,a,b]
    by_cases e:i = k
    ·rw [e,Nat.sub_self] at vy ⊢
     simp only [List.getElem?_cons_zero,Option.some.injEq] at vy
     exact ⟨_,rfl,by rw [← vy]; exact s3⟩
    ·obtain ⟨m,hm2⟩:∃ m,i - k = m + 1:=⟨i - k - 1,by omega⟩
     rw [hm2] at vy
     simp at vy
theorem rd_grown {w w':World} {v:Value} {l:List Int} {B:Nat} (h:Rd w v l) (hg:w.grownBy w' (some B)) (hB:l ≠ []→v.ownBlock ≠ some B):Rd w' v l:=by
 obtain ⟨a,A,rfl,hl,hc⟩:=h
 refine ⟨a,A,rfl,hl,fun xB=>?_⟩
 obtain ⟨b,off,rfl,xq⟩:=hc xB
 have L:some b ≠ some B:=fun e=>hB xB (by simpa [Value.ownBlock] using e)
 exact ⟨b,off,rfl,fun i hi=>(yQ (a:=(J b (off + i))) (hg.block b (yK w _ (xq i hi)) L)).trans (xq i hi)⟩
structure Src (B:Nat) (w:World) (v:Value) (l:List Int) (m:Int):Prop where
 rd:Rd w v l
 ne:l ≠ []→v.ownBlock ≠ some B
 bts:Bts l
 code:w.cell? ⟨B,0,none⟩ = some v
 cells:∃ at_ seed:Int,0 ≤ at_∧at_ ≤ m∧0 ≤ seed∧seed < 2147483648∧w.cell? ⟨B,1,none⟩ = some (.int .i64 at_)∧w.cell? ⟨B,2,none⟩ = some (.int .i64 seed)
 free1:w.frozen? ⟨B,1,none⟩ = false
 free2:w.frozen? ⟨B,2,none⟩ = false
def bj (B:Nat) (w:World) (v:Value) (l:List Int) (m:Int) (w':World):Prop:=Src B w' v l m∧w.grownBy w' (some B)
theorem src_refl {B:Nat} {w:World} {v:Value} {l:List Int} {m:Int} (h:Src B w v l m):bj B w v l m w:=⟨h,yR _ _⟩
theorem src_drew {B:Nat} {w0 w:World} {v:Value} {l:List Int} {m:Int} (h:bj B w0 v l m w) (q:Nat):bj B w0 v l m (w.drewN q) :=
 ⟨⟨h.1.rd,h.1.ne,h.1.bts,h.1.code,h.1.cells,h.1.free1,h.1.free2⟩,zL h.2 (gr_drewN _ q _)⟩
theorem src_at {B:Nat} {w0 w:World} {v:Value} {l:List Int} {m:Int} (h:bj B w0 v l m w) (a:Int) (h0:0 ≤ a) (ha:a ≤ m + 1):bj B w0 v l (m + 1) (w.setCell (J B 1) (H a)):=by
 obtain ⟨h,hg⟩:=h
 obtain ⟨at0,s0,_,_,k2,k3,Q,N⟩:=h.cells
 have g:=gr_set w (J B 1) (H a)
 exact ⟨⟨rd_grown h.rd g h.ne,h.ne,h.bts,(yL _ _ _ _ (zO (by omega))).trans h.code,
  ⟨a,s0,h0,ha,k2,k3,yM _ _ _ Q,(yL _ _ _ _ (zO (by omega))).trans N⟩,
  (World.frozen?_setCell _ _ _ _).trans h.free1,(World.frozen?_setCell _ _ _ _).trans h.free2⟩,zL hg g⟩
theorem src_seed {B:Nat} {w0 w:World} {v:Value} {l:List Int} {m:Int} (h:bj B w0 v l m w) (s:Int) (h0:0 ≤ s) (hs:s < 2147483648):bj B w0 v l m (w.setCell (J B 2) (H s)):=by
 obtain ⟨h,hg⟩:=h
 obtain ⟨at0,s0,k0,k1,_,_,Q,N⟩:=h.cells
 have g:=gr_set w (J B 2) (H s)
 exact ⟨⟨rd_grown h.rd g h.ne,h.ne,h.bts,(yL _ _ _ _ (zO (by omega))).trans h.code,
  ⟨at0,s,k0,k1,h0,hs,(yL _ _ _ _ (zO (by omega))).trans Q,yM _ _ _ N⟩,
  (World.frozen?_setCell _ _ _ _).trans h.free1,(World.frozen?_setCell _ _ _ _).trans h.free2⟩,zL hg g⟩
theorem src_step {B:Nat} {w w1:World} {v:Value} {l:List Int} {m at_ seed:Int} (h:Src B w v l m) (h0:0 ≤ at_) (ha:at_ ≤ m) (c1:w.cell? (J B 1) = some (H at_)) (c2:w.cell? (J B 2) = some (H seed))
  (hw:w.setCell (J B 1) (H (at_ + 1)) = w1) :
  bj B w v l (m + 1) w1∧w1.cell? (J B 0) = some v∧w1.cell? (J B 1) = some (H (at_ + 1))∧w1.cell? (J B 2) = some (H seed)∧w1.frozen? (J B 2) = false∧Rd w1 v l:=by
 subst hw
 have k:=src_at (src_refl h) (at_ + 1) (by omega) (by omega)
 exact ⟨k,k.1.code,yM _ _ _ c1,(yL _ _ _ _ (zO (by omega))).trans c2,k.1.free2,k.1.rd⟩
theorem seed_step {B:Nat} {w0 w1 w2:World} {v:Value} {l:List Int} {m at_ s:Int} (h:bj B w0 v l m w1) (d1:w1.cell? (J B 1) = some (H at_)) (h0:0 ≤ s) (hs:s < 2147483648)
  (hw:w1.setCell (J B 2) (H s) = w2) :
  bj B w0 v l m w2∧w2.cell? (J B 0) = some v∧w2.cell? (J B 1) = some (H at_)∧w2.cell? (J B 2) = some (H s)∧Rd w2 v l:=by
 subst hw
 obtain ⟨_,_,_,_,_,_,_,k⟩:=h.1.cells
 have g:=src_seed h s h0 hs
 exact ⟨g,g.1.code,(yL _ _ _ _ (zO (by omega))).trans d1,yM _ _ _ k,g.1.rd⟩
structure Sr where
 at_:Int
 seed:Int
def byF (l:List Int) (s:Sr):Int × Sr :=
 if s.at_ + 1 ≤ l.length then (l.getD s.at_.toNat 0,⟨s.at_ + 1,(s.seed * 31 + l.getD s.at_.toNat 0 + 7) % 2147483648⟩)
 else if 3000 < s.at_ + 1 then (0,⟨s.at_ + 1,s.seed⟩)
 else ((s.seed * 1103515245 + 12345) % 2147483648 / 65536 % 256,⟨s.at_ + 1,(s.seed * 1103515245 + 12345) % 2147483648⟩)
def nxF (l:List Int) (n:Int) (s:Sr):Int × Sr :=
 if n ≤ 1 then (0,s) else if n ≤ 256 then ((byF l s).1 % n,(byF l s).2)
 else (((byF l s).1 * 65536 + (byF l (byF l s).2).1 * 256 + (byF l (byF l (byF l s).2).2).1) % n,(byF l (byF l (byF l s).2).2).2)
structure SrX (B:Nat) (w:World) (v:Value) (l:List Int) (s:Sr):Prop where
 src:Src B w v l s.at_
 a0:0 ≤ s.at_
 s0:0 ≤ s.seed
 s1:s.seed < 2147483648
 c1:w.cell? ⟨B,1,none⟩ = some (.int .i64 s.at_)
 c2:w.cell? ⟨B,2,none⟩ = some (.int .i64 s.seed)
def SrXE (B:Nat) (w:World) (v:Value) (l:List Int) (s:Sr) (w':World):Prop:=SrX B w' v l s∧w.grownBy w' (some B)
theorem srX_drew {B:Nat} {w0 w:World} {v:Value} {l:List Int} {s:Sr} (h:SrXE B w0 v l s w) (q:Nat):SrXE B w0 v l s (w.drewN q) :=
 ⟨⟨(src_drew (src_refl h.1.src) q).1,h.1.a0,h.1.s0,h.1.s1,h.1.c1,h.1.c2⟩,zL h.2 (gr_drewN _ q _)⟩
set_option maxRecDepth 100000 in
set_option maxHeartbeats 1600000 in
theorem byte_ex (B:Nat) (v:Value) (l:List Int) (s:Sr) (w:World) (h:SrX B w v l s) (hm:s.at_ ≤ 1073741824) :
  Calls Tryz.prog 18 #[.pointer (some ⟨B,0,none⟩)] w fun e w'=>e = .returned (.int .i64 (byF l s).1)∧SrXE B w v l (byF l s).2 w':=by
 obtain ⟨at_,seed⟩:=s
 obtain ⟨hS,ha0,oS,hs,c1,c2⟩:=h
 simp only at hS ha0 oS hs c1 c2 hm
 have HS:=hide hS
 obtain ⟨xP,xB,hbts,hcode,-,f1,f2⟩:=hS
 have uI:=hide (fun w1 h=>src_step (w1:=w1) (U HS) ha0 (Int.le_refl _) c1 c2 h)
 obtain ⟨a,A,rfl,hl,hc⟩:=xP
 have HB:=hide hbts
 clear hbts hc c2 f2 xB
 have ou:=hide (byF.eq_1 l ⟨at_,seed⟩)
 simp only at ou
 generalize byF l ⟨at_,seed⟩ = hj at ou ⊢
 go_enter Tryz.func18,Tryz.ntmps18
 go_wp2_with fail
 generalize hw1:w.setCell ⟨B,1,none⟩ (.int .i64 (at_ + 1)) = w1
 obtain ⟨hE,d0,d1,d2,g2,hrd1⟩:=U uI w1 hw1
 have HE:=hide hE
 have jG:Hid (SrXE B w (.slice a l.length A) l ⟨at_ + 1,seed⟩ w1):=⟨⟨hE.1,by show 0 ≤ at_ + 1; omega,oS,hs,d1,d2⟩,hE.2⟩
 obtain ⟨a',pw,e',_,hc⟩:=hrd1
 simp only [Value.slice.injEq,true_and] at e'
 obtain ⟨rfl,rfl⟩:=e'
 clear hE uI hw1 c1 f1 hcode
 by_cases Q:at_ + 1 ≤ l.length
 ·rw [if_pos Q] at ou
  have hc':=hc (by intro e; subst e; simp at Q; omega)
  obtain ⟨b,off,rfl,xq⟩:=hc'
  obtain ⟨k,rfl⟩:=Int.eq_ofNat_of_zero_le ha0
  simp only [Int.toNat_natCast] at ou
  have hck:=xq k (by omega)
  have hbk:=bts_get (U HB) k
  generalize hx:l.getD k 0 = x at *
  have HX:=hide hx
  clear hx
  obtain ⟨hx0,hx1⟩:=hbk
  have h1'':(k:Int) < l.length:=by omega
  clear hc xq
  go_quiet (fail)
  go_wp2_with fail
  have hd:Rd w1 (.slice (some ⟨b,off,none⟩) l.length A) l:=(U HE).1.rd
  go_region
  all_goals
   generalize hw2:(w1.drewN _).setCell ⟨B,2,none⟩ (.int .i64 ((seed * 31 + x + 7) % 2147483648)) = w2
   obtain ⟨hE2,t0,t1,t2,hrd2⟩:=seed_step (src_drew (U HE) _) d1 (by omega) (by omega) hw2
   have HX2:Hid (SrXE B w (.slice (some ⟨b,off,none⟩) l.length A) l ⟨(k:Int) + 1,(seed * 31 + x + 7) % 2147483648⟩ w2):=⟨⟨hE2.1,by show (0:Int) ≤ k + 1; omega,by show 0 ≤ (seed * 31 + x + 7) % 2147483648; omega,by show (seed * 31 + x + 7) % 2147483648 < 2147483648; omega,t1,t2⟩,hE2.2⟩
   obtain ⟨a2,cap2,e2,_,hc2⟩:=hrd2
   obtain ⟨b2,off2,e3,hc3⟩:=hc2 (by intro e; subst e; simp at h1''; omega)
   simp only [Value.slice.injEq,true_and] at e2
   obtain ⟨rfl,rfl⟩:=e2
   simp only [Option.some.injEq,Addr.mk.injEq,and_true] at e3
   obtain ⟨rfl,rfl⟩:=e3
   have tck:=hc3 k (by omega)
   have hx:l.getD k 0 = x:=U HX
   rw [hx] at tck
   clear hE2 hc2 hc3 hw2 d0 d1 d2 hck hx hd
   go_wp2_with fail
   go_quiet (fail)
   go_wp2_with fail
   go_ret
   rw [U ou]
   exact ⟨rfl,srX_drew (U HX2) _⟩
 ·rw [if_neg Q] at ou
  have oE:(l.length:Int) < at_ + 1:=by omega
  clear hc
  by_cases N:3000 < at_ + 1
  ·rw [if_pos N] at ou
   go_quiet (fail)
   go_wp2_with fail
   go_ret
   rw [U ou]
   exact ⟨rfl,srX_drew (U jG) _⟩
  ·rw [if_neg N] at ou
   have kH:Hid (∀ q,SrXE B w (.slice a l.length A) l ⟨at_ + 1,(seed * 1103515245 + 12345) % 2147483648⟩ ((w1.drewN q).setCell ⟨B,2,none⟩ (.int .i64 ((seed * 1103515245 + 12345) % 2147483648)))):=fun q=>by
    obtain ⟨hE2,t0,t1,t2,-⟩:=seed_step (src_drew (U HE) q) d1 (s:=(seed * 1103515245 + 12345) % 2147483648) (by omega) (by omega) rfl
    exact ⟨⟨hE2.1,by show 0 ≤ at_ + 1; omega,by show 0 ≤ (seed * 1103515245 + 12345) % 2147483648; omega,by show (seed * 1103515245 + 12345) % 2147483648 < 2147483648; omega,t1,t2⟩,hE2.2⟩
   go_quiet (fail)
   go_wp2_with fail
   go_ret
   rw [U ou]
   exact ⟨rfl,U kH _⟩

theorem aY (w:World) (o:Obj) (row:Option Nat):w.grownBy (w.alloc o) row :=
 ⟨rfl,rfl,rfl,by simp,fun k hk _=>((Below.refl _ w).alloc tg o).block k hk⟩
theorem bL {B:Nat} {w:World} {v:Value} {l:List Int} {m:Int} (h:Src B w v l m):B < w.heap.size:=yK w _ h.code
theorem src_alloc {B:Nat} {w0 w:World} {v:Value} {l:List Int} {m:Int} (h:bj B w0 v l m w) (o:Obj):bj B w0 v l m (w.alloc o):=by
 have hB:=bL h.1
 obtain ⟨a,s,k1,k2,k3,k4,k5,k6⟩:=h.1.cells
 have e:∀ i,(w.alloc o).cell? (J B i) = w.cell? (J B i):=fun i=>yV _ _ (J B i) hB
 have f:∀ i,(w.alloc o).frozen? (J B i) = w.frozen? (J B i):=fun i=>World.frozen?_of_block (a:=(J B i)) ((aY w o none).block B hB (by simp))
 exact ⟨⟨rd_grown h.1.rd (aY w o _) h.1.ne,h.1.ne,h.1.bts,(e 0).trans h.1.code,⟨a,s,k1,k2,k3,k4,(e 1).trans k5,(e 2).trans k6⟩,(f 1).trans h.1.free1,(f 2).trans h.1.free2⟩,zL h.2 (aY w o _)⟩
theorem rd_new {w:World} {v:Value} {l:List Int} (h:Rd w v l) (xB:l ≠ []):v.ownBlock ≠ some w.heap.size:=by
 obtain ⟨a,A,rfl,_,hc⟩:=h
 obtain ⟨b,off,rfl,xq⟩:=hc xB
 have:=yK w _ (xq 0 (List.length_pos_iff.2 xB))
 simp only [Value.ownBlock,ne_eq,Option.some.injEq]
 intro e
 simp only at this
 omega
theorem own_below_grown {w w1 w':World} {B:Nat} (Q:yn w w1) (hB:w.heap.size ≤ B) (N:w1.grownBy w' (some B)):yn w w' :=
 Q.trans (gr_below N hB Q.size)

theorem sub_one (W:World):(binOp .sub 25 (yj 4607182418800017408) (yj 4607182418800017408)).run Tryz.prog W = .ok (yj 0) W:=by
 have h:FloatKind.f64.format.sub 4607182418800017408 4607182418800017408 = some 0:=by kernel_rfl
 simp [binOp,Op.floatArith,h]
theorem neg_zero (W:World):(Op.unary .neg (yj 0)).run Tryz.prog W = .ok (yj 9223372036854775808) W:=by
 kernel_rfl
theorem one_zero (W:World):(binOp .quo 25 (yj 4607182418800017408) (yj 0)).run Tryz.prog W = .ok (yj 9218868437227405312) W:=by
 have h:FloatKind.f64.format.div 4607182418800017408 0 = some 9218868437227405312:=by kernel_rfl
 simp [binOp,Op.floatArith,h]
theorem less_zero (W:World):(binOp .quo 25 (yj 13830554455654793216) (yj 0)).run Tryz.prog W = .ok (yj 18442240474082181120) W:=by
 have h:FloatKind.f64.format.div 13830554455654793216 0 = some 18442240474082181120:=by kernel_rfl
 simp [binOp,Op.floatArith,h]
def nanOf (W:World):Nat:=(Question.nanBits .f64 0 0).cut (W.tape W.drawn (.nanBits .f64 0 0))
theorem zero_zero (W:World):(binOp .quo 25 (yj 0) (yj 0)).run Tryz.prog W = .ok (yj (nanOf W)) W.drew:=by
 have h:FloatKind.f64.format.div 0 0 = none:=by kernel_rfl
 simp [binOp,Op.floatArith,h,nanOf,choose]
 rfl
theorem zero_any (w:World):Calls Tryz.prog 69 #[] w fun e w'=>e = ym (yj 0)∧w' = w:=by
 have h:=sub_one
 go_enter Tryz.func69,Tryz.ntmps69
 go_wp2_with fail
 go_ret
 exact ⟨rfl,rfl⟩
theorem frombitsS (n:Int) (w:World):(callFunc 93 #[.int .u64 n]).run Tryz.prog w = .ok (.value (yj n.toNat)) w:=by
 rw [run_callFunc_extern (e:=Extern.MathFloatBits.float64frombits) Tryz.func93 (by kernel_rfl) (by kernel_rfl) (by kernel_rfl) (by kernel_rfl)]
 rfl
structure Bx (W:World) (b:Nat) (vs:List Value):Prop where
 r:W.rangeAt b 0 vs
 t:W.there b 0 vs.length
theorem bG (w:World) (vs:List Value) (t:TypeId):Bx (w.alloc (Obj.cells vs.toArray t)) w.heap.size vs :=
 ⟨fun j u h=>by
  rw [cell_of_row _ w.heap.size (0 + j) vs.toArray t (0,0) (heap_alloc_new w _)]
  simpa using h,cn (heap_alloc_new w _) (by simp)⟩
theorem bQ {C b:Nat} {W V:World} {vs:List Value} (h:Bx W b vs) (L:Below C W V) (hC:b < C):Bx V b vs:=⟨zb h.r L hC,zf h.t L hC⟩
theorem aM {W:World} {b:Nat} {vs:List Value} (h:Bx W b vs) (j:Nat) {u:Value} (R:vs[j]? = some u):W.cell? (J b j) = some u:=by
 have:=h.r j u R; rwa [Nat.zero_add] at this
theorem yx {W:World} {b:Nat} {v0 v1 v2 v3 v4 v5 v6 v7 v8 v9 v10 v11 v12 v13:Value} (h:Bx W b [v0,v1,v2,v3,v4,v5,v6,v7,v8,v9,v10,v11,v12,v13]):W.cell? ⟨b,0,none⟩ = some v0∧W.cell? ⟨b,1,none⟩ = some v1∧W.cell? ⟨b,2,none⟩ = some v2∧W.cell? ⟨b,3,none⟩ = some v3∧W.cell? ⟨b,4,none⟩ = some v4∧W.cell? ⟨b,5,none⟩ = some v5∧W.cell? ⟨b,6,none⟩ = some v6∧W.cell? ⟨b,7,none⟩ = some v7∧W.cell? ⟨b,8,none⟩ = some v8∧W.cell? ⟨b,9,none⟩ = some v9∧W.cell? ⟨b,10,none⟩ = some v10∧W.cell? ⟨b,11,none⟩ = some v11∧W.cell? ⟨b,12,none⟩ = some v12∧W.cell? ⟨b,13,none⟩ = some v13:=⟨aM h 0 rfl,aM h 1 rfl,aM h 2 rfl,aM h 3 rfl,aM h 4 rfl,aM h 5 rfl,aM h 6 rfl,aM h 7 rfl,aM h 8 rfl,aM h 9 rfl,aM h 10 rfl,aM h 11 rfl,aM h 12 rfl,aM h 13 rfl⟩
theorem yz {W:World} {b:Nat} {v0 v1 v2 v3 v4 v5 v6 v7:Value} (h:Bx W b [v0,v1,v2,v3,v4,v5,v6,v7]):W.cell? ⟨b,0,none⟩ = some v0∧W.cell? ⟨b,1,none⟩ = some v1∧W.cell? ⟨b,2,none⟩ = some v2∧W.cell? ⟨b,3,none⟩ = some v3∧W.cell? ⟨b,4,none⟩ = some v4∧W.cell? ⟨b,5,none⟩ = some v5∧W.cell? ⟨b,6,none⟩ = some v6∧W.cell? ⟨b,7,none⟩ = some v7:=⟨aM h 0 rfl,aM h 1 rfl,aM h 2 rfl,aM h 3 rfl,aM h 4 rfl,aM h 5 rfl,aM h 6 rfl,aM h 7 rfl⟩
theorem yA {W:World} {b:Nat} {v0 v1 v2 v3 v4 v5:Value} (h:Bx W b [v0,v1,v2,v3,v4,v5]):W.cell? ⟨b,0,none⟩ = some v0∧W.cell? ⟨b,1,none⟩ = some v1∧W.cell? ⟨b,2,none⟩ = some v2∧W.cell? ⟨b,3,none⟩ = some v3∧W.cell? ⟨b,4,none⟩ = some v4∧W.cell? ⟨b,5,none⟩ = some v5:=⟨aM h 0 rfl,aM h 1 rfl,aM h 2 rfl,aM h 3 rfl,aM h 4 rfl,aM h 5 rfl⟩
theorem ej (w:World) (vs:List Value) (t:TypeId):Below w.heap.size w (w.alloc (Obj.cells vs.toArray t))∧Hid (Bx (w.alloc (Obj.cells vs.toArray t)) w.heap.size vs):=⟨(Below.refl _ _).alloc (Nat.le_refl _) _,bG w vs t⟩
theorem ek (w:World) (vs:List Value) (t:TypeId):Hid (Below w.heap.size w (w.alloc (Obj.cells vs.toArray t)))∧Hid (Bx (w.alloc (Obj.cells vs.toArray t)) w.heap.size vs):=⟨(Below.refl _ _).alloc (Nat.le_refl _) _,bG w vs t⟩
def tags8:List ByteArray:=[⟨#[]⟩,⟨#[97]⟩,⟨#[100,101,115,107,32,55]⟩,⟨#[49,50,51,52,53,54,55,56,57,48,49,50]⟩,⟨#[49,50,51,52,53,54,55,56,57,48,49,50,51]⟩,⟨#[49,50,51,52,53,54,55,56,57,48,49,50,51,52,53,54,55,56,57,48]⟩,⟨#[195,169]⟩,⟨#[120,10]⟩]
theorem tags8_len:∀ s ∈ tags8,s.size ≤ 20:=by decide +kernel
theorem src_far {B:Nat} {w:World} {v:Value} {l:List Int} {m:Int} (h:Src B w v l m):l ≠ []→∃ k,v.ownBlock = some k∧k < w.heap.size:=fun xB=>by
 obtain ⟨a,A,rfl,hl,hc⟩:=h.rd
 obtain ⟨b,off,rfl,xq⟩:=hc xB
 exact ⟨b,rfl,yK w _ (xq 0 (List.length_pos_iff.2 xB))⟩
theorem src_keep {B:Nat} {w w':World} {v:Value} {l:List Int} {m:Int} {G:Option Nat} (h:Src B w v l m) (hg:w.grownBy w' G) (hB:some B ≠ G) (hv:l ≠ []→v.ownBlock ≠ G):Src B w' v l m:=by
 have L:=hg.block B (bL h) hB
 obtain ⟨a,s,k1,k2,k3,k4,k5,k6⟩:=h.cells
 have e:∀ i,w'.cell? (J B i) = w.cell? (J B i):=fun i=>yQ (a:=(J B i)) L
 have f:∀ i,w'.frozen? (J B i) = w.frozen? (J B i):=fun i=>World.frozen?_of_block (a:=(J B i)) L
 refine ⟨?_,h.ne,h.bts,(e 0).trans h.code,⟨a,s,k1,k2,k3,k4,(e 1).trans k5,(e 2).trans k6⟩,(f 1).trans h.free1,(f 2).trans h.free2⟩
 obtain ⟨a,A,rfl,hl,hc⟩:=h.rd
 refine ⟨a,A,rfl,hl,fun xB=>?_⟩
 obtain ⟨b,off,rfl,xq⟩:=hc xB
 exact ⟨b,off,rfl,fun i hi=>(yQ (a:=(J b (off + i))) (hg.block b (yK w _ (xq i hi)) (hv xB))).trans (xq i hi)⟩
theorem gr_setsD (b:Nat):∀ (vs:List Value) (o:Nat) (w:World),w.grownBy (w.setCells b o vs) (some b)
 | [],o,w=>by rw [World.setCells]; exact yR _ _
 | v :: vs,o,w=>by rw [World.setCells]; exact zL (gr_set w (J b o) v) (gr_setsD b vs (o + 1) _)
theorem srcE_set {B b o:Nat} {w W:World} {v:Value} {l:List Int} {m:Int} (hv:l ≠ []→∃ k,v.ownBlock = some k∧k < w.heap.size) (h:bj B w v l m W) (hB:B < w.heap.size) (L:w.heap.size ≤ b) (vs:List Value):bj B w v l m (W.setCells b o vs):=by
 have g:=gr_setsD b vs o W
 refine ⟨src_keep h.1 g (fun e=>by have:=Option.some.inj e; omega) (fun xB e=>?_),?_⟩
 ·obtain ⟨k,Q,N⟩:=hv xB
  rw [Q] at e
  have:=Option.some.inj e
  omega
 ·exact ⟨g.os.trans h.2.os,g.tape.trans h.2.tape,g.output.trans h.2.output,yN h.2.size g.size,fun k hk xB=>(g.block k (yJ hk h.2.size) (fun e=>by have:=Option.some.inj e; omega)).trans (h.2.block k hk xB)⟩
end Go.Proofs.YtdliebbfcmdmaaaGreat
