/-
  The totals of a script: what the program counts group by group is what the model counts at the end. No function walked.
-/
import Derived.Test.YtbakanofkghmiaaGreatWj28
set_option linter.unusedVariables false
set_option maxHeartbeats 6400000
set_option maxRecDepth 100000
namespace Go.Proofs.YtbakanofkghmiaaGreat
open Go.RowKit
theorem run_fold:∀ (cs:List Cm) (s:RunSt),s.t = s.g.foldl wgT tot0→(cs.foldl rstep s).t = (cs.foldl rstep s).g.foldl wgT tot0
 | [],s,h=>h
 | c :: cs,s,h=>by
  rw [List.foldl_cons]
  refine run_fold cs _ ?_
  show wgT s.t (stE s.n s.l c) = (s.g ++ [stE s.n s.l c]).foldl wgT tot0
  rw [List.foldl_append,← h]; rfl
structure Al (t u:Tot):Prop where
 ac:t.ac = u.ac
 rf:t.rf = u.rf
 tr:t.tr = u.tr
 vo:t.vo = u.vo
 no:t.no = u.no
theorem al_cnt {t u:Tot} (e:Ev) (h:Al t u):Al (cntE t e) (cntM u e):=by
 obtain ⟨G,E,h3,h4,h5⟩:=h
 unfold cntE cntM
 split
 ·exact ⟨by simp only [G],E,h3,h4,h5⟩
 ·split
  ·exact ⟨G,by simp only [E],h3,h4,h5⟩
  ·split
   ·exact ⟨G,E,by simp only [h3],by simp only [h4],by simp only [h5]⟩
   ·split
    ·exact ⟨G,E,h3,h4,h5⟩
    ·exact ⟨G,E,h3,h4,h5⟩
theorem al_fold:∀ (es:List Ev) {t u:Tot},Al t u→Al (es.foldl cntE t) (es.foldl cntM u)
 | [],_,_,h=>h
 | e :: es,_,_,h=>al_fold es (al_cnt e h)
theorem cntE_rest (t:Tot) (e:Ev):(cntE t e).gr = t.gr∧(cntE t e).li = t.li∧(cntE t e).le = t.le:=by
 unfold cntE
 split
 ·exact ⟨rfl,rfl,rfl⟩
 ·split
  ·exact ⟨rfl,rfl,rfl⟩
  ·split <;> exact ⟨rfl,rfl,rfl⟩
theorem cntE_fold:∀ (es:List Ev) (t:Tot),(es.foldl cntE t).gr = t.gr∧(es.foldl cntE t).li = t.li∧(es.foldl cntE t).le = t.le
 | [],_=>⟨rfl,rfl,rfl⟩
 | e :: es,t=>by
  have G:=cntE_fold es (cntE t e)
  have E:=cntE_rest t e
  exact ⟨G.1.trans E.1,G.2.1.trans E.2.1,G.2.2.trans E.2.2⟩
theorem cntM_gr:∀ (es:List Ev) (t:Tot),(es.foldl cntM t).gr = t.gr
 | [],_=>rfl
 | e :: es,t=>by
  refine (cntM_gr es (cntM t e)).trans ?_
  unfold cntM
  split
  ·rfl
  ·split
   ·rfl
   ·split
    ·rfl
    ·split <;> rfl
theorem totG_gr:∀ (gl:List (List Ev)) (t:Tot),(totG t gl).gr = t.gr
 | [],_=>rfl
 | es :: gl,t=>(totG_gr gl (es.foldl cntM t)).trans (cntM_gr es t)
theorem wrap_small {x:Int} (h0:0 ≤ x) (G:x ≤ 1000000):wrap64 x = x:=by unfold wrap64; omega
theorem wg_al:∀ (gl:List (List Ev)) {t u:Tot},Al t u→0 ≤ t.gr→t.gr + gl.length ≤ 1000000→Al (gl.foldl wgT t) (totG u gl)∧(gl.foldl wgT t).gr = t.gr + gl.length∧(gl.foldl wgT t).li = t.li∧(gl.foldl wgT t).le = t.le
 | [],t,u,h,_,_=>⟨h,by simp,rfl,rfl⟩
 | es :: gl,t,u,h,h0,G=>by
  rw [List.length_cons] at G
  have hf:=cntE_fold es { t with gr:=wrap64 (t.gr + 1) }
  have hw:wrap64 (t.gr + 1) = t.gr + 1:=wrap_small (by omega) (by omega)
  have hg:(wgT t es).gr = t.gr + 1:=hf.1.trans hw
  have ha:Al (wgT t es) (es.foldl cntM u):=al_fold es ⟨h.ac,h.rf,h.tr,h.vo,h.no⟩
  have ih:=wg_al gl ha (by omega) (by omega)
  refine ⟨ih.1,?_,ih.2.2.1.trans hf.2.1,ih.2.2.2.trans hf.2.2⟩
  have:=ih.2.1
  rw [List.foldl_cons,this,List.length_cons]; omega
theorem wb_fold:∀ (l:List Od) (t:Tot) (n:Int),0 ≤ t.li→t.li + l.length ≤ 1000000→l.foldl cntO { t with le:=n } = { t with li:=t.li + l.length,le:=l.foldl (fun n o=>wrap64 (n + o.left)) n }
 | [],t,n,_,_=>by simp
 | o :: l,t,n,h0,G=>by
  rw [List.length_cons] at G
  have hw:wrap64 (t.li + 1) = t.li + 1:=wrap_small (by omega) (by omega)
  rw [List.foldl_cons,List.foldl_cons]
  have:=wb_fold l { t with li:=t.li + 1 } (wrap64 (n + o.left)) (by show 0 ≤ t.li + 1; omega) (by show t.li + 1 + _ ≤ _; omega)
  simp only at this
  unfold cntO
  simp only [hw]
  refine this.trans ?_
  congr 1
  rw [List.length_cons]; omega
theorem tot_eq (cs:List Cm) (h:cs.length ≤ 200):wbT (runS cs).t (runS cs).l = totM (runS cs).g (runS cs).l:=by
 have hI:=run_inv cs h
 have hl:=hI.1.good.len
 have hf:(runS cs).t = (runS cs).g.foldl wgT tot0:=run_fold cs _ rfl
 generalize runS cs = s at hI hl hf ⊢
 obtain ⟨ha,hg,hli,kl⟩:=wg_al s.g (t:=tot0) (u:={ tot0 with gr:=s.g.length }) ⟨rfl,rfl,rfl,rfl,rfl⟩ (by show (0:Int) ≤ 0; omega) (by show (0:Int) + _ ≤ _; omega)
 have uk:=totG_gr s.g { tot0 with gr:=s.g.length }
 rw [← hf] at ha hg hli kl
 unfold totM wbT
 generalize totG { tot0 with gr:=s.g.length } s.g = za at ha uk ⊢
 have hw:=wb_fold s.l s.t 0 (by rw [hli]; show (0:Int) ≤ 0; omega) (by rw [hli]; show (0:Int) + _ ≤ _; omega)
 have ht:{ s.t with le:=0 } = s.t:=by rw [show (0:Int) = s.t.le from kl.symm]
 rw [ht] at hw
 rw [hw]
 obtain ⟨u1,u2,u3,u4,u5,u6,u7,u8⟩:=za
 generalize s.t = T at *
 obtain ⟨t1,t2,t3,t4,t5,t6,t7,t8⟩:=T
 obtain ⟨a1,a2,a3,a4,a5⟩:=ha
 simp only [tot0] at *
 simp only [Tot.mk.injEq]
 exact ⟨by omega,a1,a2,a3,a4,a5,by omega,rfl⟩
theorem dw (n a b:Int) (w:World) :
  Calls Tryz.prog 80 #[H n,H a,H b] w fun e w'=>e = .returned (.bool (betB n a b))∧w' = w:=by
 go_enter Tryz.func80,Tryz.ntmps80
 go_wp2
 all_goals go_ret
 all_goals exact ⟨zB (by rw [Bool.eq_iff_iff]; simp [betB]; omega),rfl⟩
theorem l03Tag_any (s:ByteArray) (w:World) (hs:s.size ≤ maxLen) :
  Calls Tryz.prog 130 #[yk s] w fun e w'=>e = .returned (.bool (tagB s))∧w' = w:=by
 unfold maxLen at hs
 by_cases hl:s.size ≤ 12
 ·have hl':¬ ((12:Int) < s.size):=by omega
  go_enter Tryz.func130,Tryz.ntmps130
  go_wp2_with fail
  go_loop [3] (fun i=>∃ k:Nat,k ≤ s.size∧i = H k∧Hid (s.data.toList.all tagC = (s.data.toList.drop k).all tagC)) (fun i=>s.size - (intOf i).toNat)
  case atStart=>exact ⟨0,Nat.zero_le _,rfl,by simp [Hid]⟩
  case round =>
   obtain ⟨k,hk,rfl,Q⟩:=hrel
   by_cases xJ:k < s.size
   ·have un:(k:Int) < s.size:=by omega
    have om:=drop_cons s k xJ
    have hw:betB (s[k].toNat:Int) 32 126 = tagC s[k]:=rfl
    cases ht:tagC s[k]
    ·have HT:Hid (s.data.toList.all tagC = false):=by
      have:=U Q
      rw [om,List.all_cons,ht,Bool.false_and] at this
      exact this
     rw [ht] at hw
     have oq:(s[k].toNat:Int) < 32 ∨ (32 ≤ (s[k].toNat:Int)∧(126:Int) < s[k].toNat):=by
      simp [betB] at hw; omega
     clear om ht hw
     rcases oq with h32 | ⟨h32,h126⟩
     ·have hd:decide ((s[k].toNat:Int) < 32) = true:=by simpa using h32
      go_wp2_with fail
      go_ret
      exact ⟨zB (tag_no s (U HT)).symm,rfl⟩
     ·have hd:decide ((s[k].toNat:Int) < 32) = false:=by simpa using h32
      go_wp2_with fail
      go_ret
      exact ⟨zB (tag_no s (U HT)).symm,rfl⟩
    ·have HN:Hid (s.data.toList.all tagC = (s.data.toList.drop (k + 1)).all tagC):=by
      have:=U Q
      rw [om,List.all_cons,ht,Bool.true_and] at this
      exact this
     rw [ht] at hw
     have oq:32 ≤ (s[k].toNat:Int)∧(s[k].toNat:Int) ≤ 126:=by
      simp [betB] at hw; omega
     obtain ⟨h32,h126⟩:=oq
     have hd:decide ((s[k].toNat:Int) < 32) = false:=by simpa using h32
     have hd2:¬ ((126:Int) < s[k].toNat):=by omega
     clear om ht hw
     go_wp2_with fail
     go_round
     case rel=>exact ⟨k + 1,by omega,by go_num,U HN⟩
     case measure=>simp [intOf]; omega
   ·go_wp2_with fail
    go_ret
    have h:=U Q
    rw [xa (by rw [data_len]; omega)] at h
    exact ⟨zB (tag_yes s hl (by rw [h]; rfl)).symm,rfl⟩
 ·have hl':(12:Int) < s.size:=by omega
  go_enter Tryz.func130,Tryz.ntmps130
  go_wp2_with fail
  go_ret
  exact ⟨zB (tag_long s hl).symm,rfl⟩
theorem l03Better_any (o c:Od) (w:World) :
  Calls Tryz.prog 131 #[.agg (yv o.id o.side o.ticks o.left o.life o.tag).toArray,.agg (yv c.id c.side c.ticks c.left c.life c.tag).toArray] w fun e w'=>e = .returned (.bool (ahdB o c))∧w.grownBy w' none:=by
 by_cases h:o.ticks = c.ticks
 ·have h':(o.ticks == c.ticks) = true:=by simpa using h
  have HA:Hid (ahdB o c = decide (o.id < c.id)):=if_pos h
  go_enter Tryz.func131,Tryz.ntmps131
  go_wp2_with fail
  go_ret
  exact ⟨zB (U HA).symm,(World.grownBy_alloc _ _ _).trans (World.grownBy_alloc _ _ _)⟩
 ·have HA:Hid (ahdB o c = (decide (c.ticks < o.ticks) == decide (o.side = 1))):=if_neg h
  go_enter Tryz.func131,Tryz.ntmps131
  go_wp2_with fail
  go_ret
  exact ⟨zB (by rw [U HA]; rfl),(World.grownBy_alloc _ _ _).trans (World.grownBy_alloc _ _ _)⟩
theorem l03Front_any (v:Value) (l:List Od) (sd:Int) (w:World) (hr:RdR Od.vs 6 w v l) (hri:aV l) (hn:l.length ≤ 1000) :
  Calls Tryz.prog 83 #[v,H sd] w fun e w'=>∃ k:Int,e = .returned (H k)∧FrPre l sd l.length k∧w.grownBy w' none:=by
 obtain ⟨a,A,rfl,xE,hc⟩:=hr
 have xq:∀ (k:Nat) (c:Od),l[k]? = some c→∃ b off,a = some (J b off)∧b < w.heap.size∧w.rangeAt b (off + k * 6) c.vs:=by
  intro k c hk
  obtain ⟨b,off,G,E,h3⟩:=hc (by intro h; rw [h] at hk; simp at hk)
  exact ⟨b,off,G,E,h3 k c hk⟩
 have HC:=Y xq
 have HRI:=Y hri
 clear xq hc hri
 go_enter Tryz.func83,Tryz.ntmps83
 go_wp2_with fail
 go_loopw [5,6] (fun bv iv wr=>∃ (k:Nat) (best:Int),bv = H best∧k ≤ l.length∧iv = H k∧Hid (FrPre l sd k best)∧w.grownBy wr none) (fun _ iv _=>l.length - (intOf iv).toNat)
 case atStart=>exact ⟨0,-1,rfl,Nat.zero_le _,rfl,.inl ⟨rfl,fun j o K=>by omega⟩,yR _ _⟩
 case round =>
  obtain ⟨k,best,rfl,hk,rfl,oS,hg⟩:=hrel
  have HG:=Y hg
  clear hg
  by_cases xJ:k < l.length
  ·obtain ⟨c,uV⟩:∃ c,l[k]? = some c:=⟨_,yH xJ⟩
   obtain ⟨b,off,rfl,F,xo⟩:=U HC k c uV
   have jO:=Y uV
   obtain ⟨g0,g1,g2,g3,g4,g5⟩:=zz (zt xo (U HG) F (by simp))
   have un:(k:Int) < l.length:=by omega
   have kp:=Y xo
   have HHB:=Y F
   clear uV xo
   by_cases hs:c.side = sd
   ·subst hs
    rcases U oS with ⟨rfl,jh⟩ | ⟨i,o,rfl,hi,oo,pw,hah⟩
    ·have HN:=Y (frPre_first (U oS) (U jO) rfl)
     clear jh
     go_wp2_with fail
     go_quiet (fail)
     go_wp2_with fail
     go_roundw
     case rel=>exact ⟨k + 1,k,rfl,by omega,by go_num,U HN,cC (U HG) rfl rfl rfl rfl⟩
     case measure=>simp [intOf]; omega
    ·obtain ⟨b',uz,kT,jK,vM⟩:=U HC i o oo
     simp only [Option.some.injEq,Addr.mk.injEq,and_true] at kT
     obtain ⟨rfl,rfl⟩:=kT
     obtain ⟨e0,e1,e2,e3,e4,e5⟩:=zz (zt vM (U HG) F (by simp))
     have hlti:(i:Int) < l.length:=by have:=(yG.1 oo).1; omega
     have uH:¬ ((i:Int) < 0):=by omega
     have hi0':decide ((i:Int) < 0) = false:=by simp
     have HCEL:Hid (∀ w',wr.grownBy w' none→w'.rangeAt b (off + k * 6) c.vs∧w'.rangeAt b (off + i * 6) o.vs):=fun w' h'=>⟨zt (zt (U kp) (U HG) F (by simp)) h' (yJ F (U HG).size) (by simp),zt (zt vM (U HG) F (by simp)) h' (yJ F (U HG).size) (by simp)⟩
     have HHI:Hid (l[i]? = some o):=oo
     clear hah oo vM pw
     go_wp2_with fail
     refine dn (W:=wr) (by kernel_rfl) (by kernel_rfl) (yR _ _) ?_
     iterate 19 (
      refine bc (v:=?_) ?_ ?_ ?_
      rotate_left
      ·rfl
      ·intro w' ul
       obtain ⟨c0,c1,c2,c3,c4,c5⟩:=zz (U HCEL w' ul).1
       obtain ⟨d0,d1,d2,d3,d4,d5⟩:=zz (U HCEL w' ul).2
       go_simp
       try rfl
      intro hj hK
      go_simp
      refine hK _ ?_
      clear hK hj)
     refine bc (v:=.bool (ahdB c o)) ?_ ?_ ?_
     ·rfl
     ·intro w' ul
      go_simp
      refine (l03Better_any c o _).mono ?_
      rintro e w3 ⟨rfl,vd⟩
      exact ⟨rfl,ul.trans vd⟩
     intro hj hK
     go_simp
     refine hK _ ?_
     clear hK hj
     iterate 2 (
      refine bc (v:=?_) ?_ ?_ ?_
      rotate_left
      ·rfl
      ·intro w' ul
       go_simp
       try rfl
      intro hj hK
      go_simp
      refine hK _ ?_
      clear hK hj)
     refine wpQuiet_nil ?_
     intro w2 qc
     have uM:=Y ((U HG).trans qc)
     clear qc g0 g1 g2 g3 g4 g5 e0 e1 e2 e3 e4 e5
     cases hah:ahdB c o
     ·have HN:=Y (frPre_worse (U HRI) (U oS) (U HHI) (U jO) rfl hah)
      go_wp2_with fail
      go_roundw
      case rel=>exact ⟨k + 1,i,rfl,by omega,by go_num,U HN,U uM⟩
      case measure=>simp [intOf]; omega
     ·have HN:=Y (frPre_better (U HRI) (U oS) (U HHI) (U jO) rfl hah)
      go_wp2_with fail
      go_roundw
      case rel=>exact ⟨k + 1,k,rfl,by omega,by go_num,U HN,U uM⟩
      case measure=>simp [intOf]; omega
   ·have HN:=Y (frPre_skip (U oS) (U jO) hs)
    have hs':(c.side == sd) = false:=by simpa using hs
    go_wp2_with fail
    go_quiet (fail)
    go_wp2_with fail
    go_roundw
    case rel=>exact ⟨k + 1,best,rfl,by omega,by go_num,U HN,cC (U HG) rfl rfl rfl rfl⟩
    case measure=>simp [intOf]; omega
  ·go_wp2_with fail
   go_ret
   have h:=U oS
   rw [show k = l.length by omega] at h
   exact ⟨_,rfl,h,U HG⟩
theorem l03Levels_any (v:Value) (l:List Od) (w:World) (hr:RdR Od.vs 6 w v l) (hn:l.length ≤ 1000) :
  Calls Tryz.prog 82 #[v] w fun e w'=>e = .returned (H (nlev l:Nat))∧w.grownBy w' none:=by
 obtain ⟨a,A,rfl,xE,hc⟩:=hr
 have xq:∀ (k:Nat) (c:Od),l[k]? = some c→∃ b off,a = some (J b off)∧b < w.heap.size∧w.rangeAt b (off + k * 6) c.vs:=by
  intro k c hk
  obtain ⟨b,off,G,E,h3⟩:=hc (by intro h; rw [h] at hk; simp at hk)
  exact ⟨b,off,G,E,h3 k c hk⟩
 have HC:=Y xq
 clear xq hc
 go_enter Tryz.func82,Tryz.ntmps82
 go_wp2_with fail
 go_loopw [3,4] (fun nv iv wr=>∃ (i n:Nat),nv = H n∧i ≤ l.length∧iv = H i∧Hid (n = nlev (l.take i))∧n ≤ i∧w.grownBy wr none) (fun _ iv _=>l.length - (intOf iv).toNat)
 case atStart=>exact ⟨0,0,rfl,Nat.zero_le _,rfl,by simp [Hid,nlev,nlevR],Nat.le_refl _,yR _ _⟩
 case round =>
  obtain ⟨i,n,rfl,hi,rfl,hnl,hni,hg⟩:=hrel
  have HG:=Y hg
  clear hg
  by_cases xJ:i < l.length
  ·obtain ⟨c,uV⟩:∃ c,l[i]? = some c:=⟨_,yH xJ⟩
   obtain ⟨b,off,rfl,F,xo⟩:=U HC i c uV
   have jO:=Y uV
   have kp:=Y xo
   have un:(i:Int) < l.length:=by omega
   have HNN:Hid (nlev (l.take (i + 1)) = n + (bY c (l.take i)).toNat):=by
    show _ = _
    rw [takeR l i c uV,nlev_fresh,← U hnl]
   clear uV xo hnl
   go_wp2_with fail
   go_loopw [5,6] (fun fv kv wq=>∃ (k:Nat) (fb:Bool),fv = .bool fb∧k ≤ i∧kv = H k∧Hid (fb = bY c (l.take k))∧w.grownBy wq none) (fun _ kv _=>i - (intOf kv).toNat)
   case atStart=>exact ⟨0,true,rfl,Nat.zero_le _,rfl,rfl,U HG⟩
   case round =>
    obtain ⟨k,fb,rfl,hk,rfl,hfb,hg⟩:=hrel
    have HGQ:=Y hg
    clear hg
    by_cases hki:k < i
    ·obtain ⟨y,hky⟩:∃ y,l[k]? = some y:=⟨_,yH (by omega)⟩
     obtain ⟨b',uz,kT,jK,vM⟩:=U HC k y hky
     simp only [Option.some.injEq,Addr.mk.injEq,and_true] at kT
     obtain ⟨rfl,rfl⟩:=kT
     have HFN:Hid (bY c (l.take (k + 1)) = (fb && difB c y)):=by
      show _ = _
      rw [takeR l k y hky,U hfb,bY,List.all_append]; simp [bY]
     obtain ⟨-,e1,e2,-⟩:=zz (zt (U kp) (U HGQ) F (by simp))
     obtain ⟨-,d1,d2,-⟩:=zz (zt vM (U HGQ) F (by simp))
     have hki':(k:Int) < i:=by omega
     have hkl':(k:Int) < l.length:=by omega
     have vk:∀ (fb':Bool),fb' = (fb && difB c y)→Hid (fb' = bY c (l.take (k + 1))):=fun fb' h=>by show _ = _; rw [h,U HFN]
     have vv:=Y vk
     clear hky vM vk
     cases fb
     ·go_wp2_with fail
      go_quiet (fail)
      go_wp2_with fail
      go_roundw
      case rel=>exact ⟨k + 1,false,rfl,by omega,by go_num,U vv _ rfl,cC (U HGQ) rfl rfl rfl rfl⟩
      case measure=>simp [intOf]; omega
     ·by_cases G:y.side = c.side
      ·have kS:(y.side != c.side) = false:=by simpa using G
       by_cases E:y.ticks = c.ticks
       ·have hd:(true && difB c y) = false:=by simp [difB,G,E]
        go_wp2_with fail
        go_quiet (fail)
        go_wp2_with fail
        go_roundw
        case rel=>exact ⟨k + 1,false,by first | rfl | simp [E],by omega,by go_num,U vv _ hd.symm,cC (U HGQ) rfl rfl rfl rfl⟩
        case measure=>simp [intOf]; omega
       ·have hd:(true && difB c y) = true:=by simp [difB,E]
        go_wp2_with fail
        go_quiet (fail)
        go_wp2_with fail
        go_roundw
        case rel=>exact ⟨k + 1,true,by first | rfl | simp [E],by omega,by go_num,U vv _ hd.symm,cC (U HGQ) rfl rfl rfl rfl⟩
        case measure=>simp [intOf]; omega
      ·have kS:(y.side != c.side) = true:=by simpa using G
       have hd:(true && difB c y) = true:=by simp [difB,G]
       go_wp2_with fail
       go_quiet (fail)
       go_wp2_with fail
       go_roundw
       case rel=>exact ⟨k + 1,true,by first | rfl | simp,by omega,by go_num,U vv _ hd.symm,cC (U HGQ) rfl rfl rfl rfl⟩
       case measure=>simp [intOf]; omega
    ·obtain rfl:k = i:=by omega
     have HF:=hfb
     cases fb
     ·have HE:Hid (nlev (l.take (k + 1)) = n):=by show _ = _; rw [U HNN,← U HF]; rfl
      clear hfb
      go_wp2_with fail
      exact ⟨⟨k + 1,n,rfl,by omega,by go_num,(U HE).symm,by omega,U HGQ⟩,by simp [intOf]; omega⟩
     ·have HE:Hid (nlev (l.take (k + 1)) = n + 1):=by show _ = _; rw [U HNN,← U HF]; rfl
      clear hfb
      go_wp2_with fail
      exact ⟨⟨k + 1,n + 1,by go_num,by omega,by go_num,(U HE).symm,by omega,U HGQ⟩,by simp [intOf]; omega⟩
  ·go_wp2_with fail
   go_ret
   have h:=U hnl
   rw [yZ (by omega)] at h
   subst h
   exact ⟨rfl,U HG⟩

end Go.Proofs.YtbakanofkghmiaaGreat
