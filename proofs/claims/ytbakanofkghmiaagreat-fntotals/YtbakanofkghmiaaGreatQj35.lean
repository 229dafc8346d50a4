/-
  What the small functions that ask whether an order is right return, of the program and of the model: proved by walking them. (what walks the functions of the model or of the laws)
-/
import Derived.Test.YtbakanofkghmiaaGreatQj31
set_option linter.unusedVariables false
set_option maxHeartbeats 6400000
set_option maxRecDepth 100000
namespace Go.Proofs.YtbakanofkghmiaaGreat
open Go.RowKit
theorem dq (n a b:Int) (w:World) :
  Calls Tryz.prog 80 #[H n,H a,H b] w fun e w'=>e = .returned (.bool (betB n a b))∧w' = w:=by
 go_enter Tryz.func80,Tryz.ntmps80
 go_wp2
 all_goals go_ret
 all_goals exact ⟨zB (by rw [Bool.eq_iff_iff]; simp [betB]; omega),rfl⟩
theorem l03Tag_any (s:ByteArray) (w:World) (hs:s.size ≤ maxLen) :
  Calls Tryz.prog 130 #[yk s] w fun e w'=>e = .returned (.bool (tagB s))∧w' = w:=by
 unfold maxLen at hs
 by_cases hl:s.size ≤ 12
 ·have hl':¬ ((12:Int) < s.size):=by omega
  go_enter Tryz.func130,Tryz.ntmps130
  go_wp2_with fail
  go_loop [3] (fun i=>∃ k:Nat,k ≤ s.size∧i = H k∧Hid (s.data.toList.all tagC = (s.data.toList.drop k).all tagC)) (fun i=>s.size - (intOf i).toNat)
  case atStart=>exact ⟨0,Nat.zero_le _,rfl,by simp [Hid]⟩
  case round =>
   obtain ⟨k,hk,rfl,D⟩:=hrel
   by_cases xL:k < s.size
   ·have uy:(k:Int) < s.size:=by omega
    have hdr:=drop_cons s k xL
    have hw:betB (s[k].toNat:Int) 32 126 = tagC s[k]:=rfl
    cases ht:tagC s[k]
    ·have HT:Hid (s.data.toList.all tagC = false):=by
      have:=U D
      rw [hdr,List.all_cons,ht,Bool.false_and] at this
      exact this
     rw [ht] at hw
     have kZ:(s[k].toNat:Int) < 32 ∨ (32 ≤ (s[k].toNat:Int)∧(126:Int) < s[k].toNat):=by
      simp [betB] at hw; omega
     clear hdr ht hw
     rcases kZ with h32 | ⟨h32,h126⟩
     ·have hd:decide ((s[k].toNat:Int) < 32) = true:=by simpa using h32
      go_wp2_with fail
      go_ret
      exact ⟨zB (tag_no s (U HT)).symm,rfl⟩
     ·have hd:decide ((s[k].toNat:Int) < 32) = false:=by simpa using h32
      go_wp2_with fail
      go_ret
      exact ⟨zB (tag_no s (U HT)).symm,rfl⟩
    ·have HN:Hid (s.data.toList.all tagC = (s.data.toList.drop (k + 1)).all tagC):=by
      have:=U D
      rw [hdr,List.all_cons,ht,Bool.true_and] at this
      exact this
     rw [ht] at hw
     have kZ:32 ≤ (s[k].toNat:Int)∧(s[k].toNat:Int) ≤ 126:=by
      simp [betB] at hw; omega
     obtain ⟨h32,h126⟩:=kZ
     have hd:decide ((s[k].toNat:Int) < 32) = false:=by simpa using h32
     have hd2:¬ ((126:Int) < s[k].toNat):=by omega
     clear hdr ht hw
     go_wp2_with fail
     go_round
     case rel=>exact ⟨k + 1,by omega,by go_num,U HN⟩
     case measure=>simp [intOf]; omega
   ·go_wp2_with fail
    go_ret
    have h:=U D
    rw [xb (by rw [data_len]; omega)] at h
    exact ⟨zB (tag_yes s hl (by rw [h]; rfl)).symm,rfl⟩
 ·have hl':(12:Int) < s.size:=by omega
  go_enter Tryz.func130,Tryz.ntmps130
  go_wp2_with fail
  go_ret
  exact ⟨zB (tag_long s hl).symm,rfl⟩
theorem l03Better_any (o c:Od) (w:World) :
  Calls Tryz.prog 131 #[.agg (yw o.id o.side o.ticks o.left o.life o.tag).toArray,.agg (yw c.id c.side c.ticks c.left c.life c.tag).toArray] w fun e w'=>e = .returned (.bool (ahdB o c))∧w.grownBy w' none:=by
 by_cases h:o.ticks = c.ticks
 ·have h':(o.ticks == c.ticks) = true:=by simpa using h
  have HA:Hid (ahdB o c = decide (o.id < c.id)):=if_pos h
  go_enter Tryz.func131,Tryz.ntmps131
  go_wp2_with fail
  go_ret
  exact ⟨zB (U HA).symm,(World.grownBy_alloc _ _ _).trans (World.grownBy_alloc _ _ _)⟩
 ·have HA:Hid (ahdB o c = (decide (c.ticks < o.ticks) == decide (o.side = 1))):=if_neg h
  go_enter Tryz.func131,Tryz.ntmps131
  go_wp2_with fail
  go_ret
  exact ⟨zB (by rw [U HA]; rfl),(World.grownBy_alloc _ _ _).trans (World.grownBy_alloc _ _ _)⟩
theorem l03Front_any (v:Value) (l:List Od) (sd:Int) (w:World) (hr:RdR Od.vs 6 w v l) (hri:bu l) (hn:l.length ≤ 1000) :
  Calls Tryz.prog 83 #[v,H sd] w fun e w'=>∃ k:Int,e = .returned (H k)∧FrPre l sd l.length k∧w.grownBy w' none:=by
 obtain ⟨a,A,rfl,xG,hc⟩:=hr
 have xr:∀ (k:Nat) (c:Od),l[k]? = some c→∃ b off,a = some (J b off)∧b < w.heap.size∧w.rangeAt b (off + k * 6) c.vs:=by
  intro k c hk
  obtain ⟨b,off,Q,N,h3⟩:=hc (by intro h; rw [h] at hk; simp at hk)
  exact ⟨b,off,Q,N,h3 k c hk⟩
 have HC:=Y xr
 have HRI:=Y hri
 clear xr hc hri
 go_enter Tryz.func83,Tryz.ntmps83
 go_wp2_with fail
 go_loopw [5,6] (fun bv iv wr=>∃ (k:Nat) (best:Int),bv = H best∧k ≤ l.length∧iv = H k∧Hid (FrPre l sd k best)∧w.grownBy wr none) (fun _ iv _=>l.length - (intOf iv).toNat)
 case atStart=>exact ⟨0,-1,rfl,Nat.zero_le _,rfl,.inl ⟨rfl,fun j o R=>by omega⟩,yS _ _⟩
 case round =>
  obtain ⟨k,best,rfl,hk,rfl,oN,hg⟩:=hrel
  have HG:=Y hg
  clear hg
  by_cases xL:k < l.length
  ·obtain ⟨c,vd⟩:∃ c,l[k]? = some c:=⟨_,yI xL⟩
   obtain ⟨b,off,rfl,X,xp⟩:=U HC k c vd
   have jO:=Y vd
   obtain ⟨g0,g1,g2,g3,g4,g5⟩:=zF (zu xp (U HG) X (by simp))
   have uy:(k:Int) < l.length:=by omega
   have ko:=Y xp
   have HHB:=Y X
   clear vd xp
   by_cases hs:c.side = sd
   ·subst hs
    rcases U oN with ⟨rfl,jc⟩ | ⟨i,o,rfl,hi,ox,pm,hah⟩
    ·have HN:=Y (frPre_first (U oN) (U jO) rfl)
     clear jc
     go_wp2_with fail
     go_quiet (fail)
     go_wp2_with fail
     go_roundw
     case rel=>exact ⟨k + 1,k,rfl,by omega,by go_num,U HN,cx (U HG) rfl rfl rfl rfl⟩
     case measure=>simp [intOf]; omega
    ·obtain ⟨b',uM,kV,kw,qk⟩:=U HC i o ox
     simp only [Option.some.injEq,Addr.mk.injEq,and_true] at kV
     obtain ⟨rfl,rfl⟩:=kV
     obtain ⟨e0,e1,e2,e3,e4,e5⟩:=zF (zu qk (U HG) X (by simp))
     have hlti:(i:Int) < l.length:=by have:=(yH.1 ox).1; omega
     have uG:¬ ((i:Int) < 0):=by omega
     have hi0':decide ((i:Int) < 0) = false:=by simp
     have HCEL:Hid (∀ w',wr.grownBy w' none→w'.rangeAt b (off + k * 6) c.vs∧w'.rangeAt b (off + i * 6) o.vs):=fun w' h'=>⟨zu (zu (U ko) (U HG) X (by simp)) h' (yK X (U HG).size) (by simp),zu (zu qk (U HG) X (by simp)) h' (yK X (U HG).size) (by simp)⟩
     have HHI:Hid (l[i]? = some o):=ox
     clear hah ox qk pm
     go_wp2_with fail
     refine dh (W:=wr) (by kernel_rfl) (by kernel_rfl) (yS _ _) ?_
     iterate 19 (
      refine aZ (v:=?_) ?_ ?_ ?_
      rotate_left
      ·rfl
      ·intro w' un
       obtain ⟨c0,c1,c2,c3,c4,c5⟩:=zF (U HCEL w' un).1
       obtain ⟨d0,d1,d2,d3,d4,d5⟩:=zF (U HCEL w' un).2
       go_simp
       try rfl
      intro hR hK
      go_simp
      refine hK _ ?_
      clear hK hR)
     refine aZ (v:=.bool (ahdB c o)) ?_ ?_ ?_
     ·rfl
     ·intro w' un
      go_simp
      refine (l03Better_any c o _).mono ?_
      rintro e w3 ⟨rfl,uY⟩
      exact ⟨rfl,un.trans uY⟩
     intro hR hK
     go_simp
     refine hK _ ?_
     clear hK hR
     iterate 2 (
      refine aZ (v:=?_) ?_ ?_ ?_
      rotate_left
      ·rfl
      ·intro w' un
       go_simp
       try rfl
      intro hR hK
      go_simp
      refine hK _ ?_
      clear hK hR)
     refine wpQuiet_nil ?_
     intro w2 vM
     have uP:=Y ((U HG).trans vM)
     clear vM g0 g1 g2 g3 g4 g5 e0 e1 e2 e3 e4 e5
     cases hah:ahdB c o
     ·have HN:=Y (frPre_worse (U HRI) (U oN) (U HHI) (U jO) rfl hah)
      go_wp2_with fail
      go_roundw
      case rel=>exact ⟨k + 1,i,rfl,by omega,by go_num,U HN,U uP⟩
      case measure=>simp [intOf]; omega
     ·have HN:=Y (frPre_better (U HRI) (U oN) (U HHI) (U jO) rfl hah)
      go_wp2_with fail
      go_roundw
      case rel=>exact ⟨k + 1,k,rfl,by omega,by go_num,U HN,U uP⟩
      case measure=>simp [intOf]; omega
   ·have HN:=Y (frPre_skip (U oN) (U jO) hs)
    have hs':(c.side == sd) = false:=by simpa using hs
    go_wp2_with fail
    go_quiet (fail)
    go_wp2_with fail
    go_roundw
    case rel=>exact ⟨k + 1,best,rfl,by omega,by go_num,U HN,cx (U HG) rfl rfl rfl rfl⟩
    case measure=>simp [intOf]; omega
  ·go_wp2_with fail
   go_ret
   have h:=U oN
   rw [show k = l.length by omega] at h
   exact ⟨_,rfl,h,U HG⟩
theorem l03Levels_any (v:Value) (l:List Od) (w:World) (hr:RdR Od.vs 6 w v l) (hn:l.length ≤ 1000) :
  Calls Tryz.prog 82 #[v] w fun e w'=>e = .returned (H (nlev l:Nat))∧w.grownBy w' none:=by
 obtain ⟨a,A,rfl,xG,hc⟩:=hr
 have xr:∀ (k:Nat) (c:Od),l[k]? = some c→∃ b off,a = some (J b off)∧b < w.heap.size∧w.rangeAt b (off + k * 6) c.vs:=by
  intro k c hk
  obtain ⟨b,off,Q,N,h3⟩:=hc (by intro h; rw [h] at hk; simp at hk)
  exact ⟨b,off,Q,N,h3 k c hk⟩
 have HC:=Y xr
 clear xr hc
 go_enter Tryz.func82,Tryz.ntmps82
 go_wp2_with fail
 go_loopw [3,4] (fun nv iv wr=>∃ (i n:Nat),nv = H n∧i ≤ l.length∧iv = H i∧Hid (n = nlev (l.take i))∧n ≤ i∧w.grownBy wr none) (fun _ iv _=>l.length - (intOf iv).toNat)
 case atStart=>exact ⟨0,0,rfl,Nat.zero_le _,rfl,by simp [Hid,nlev,nlevR],Nat.le_refl _,yS _ _⟩
 case round =>
  obtain ⟨i,n,rfl,hi,rfl,hnl,hni,hg⟩:=hrel
  have HG:=Y hg
  clear hg
  by_cases xL:i < l.length
  ·obtain ⟨c,vd⟩:∃ c,l[i]? = some c:=⟨_,yI xL⟩
   obtain ⟨b,off,rfl,X,xp⟩:=U HC i c vd
   have jO:=Y vd
   have ko:=Y xp
   have uy:(i:Int) < l.length:=by omega
   have HNN:Hid (nlev (l.take (i + 1)) = n + (bU c (l.take i)).toNat):=by
    show _ = _
    rw [takeR l i c vd,nlev_fresh,← U hnl]
   clear vd xp hnl
   go_wp2_with fail
   go_loopw [5,6] (fun fv kv wq=>∃ (k:Nat) (fb:Bool),fv = .bool fb∧k ≤ i∧kv = H k∧Hid (fb = bU c (l.take k))∧w.grownBy wq none) (fun _ kv _=>i - (intOf kv).toNat)
   case atStart=>exact ⟨0,true,rfl,Nat.zero_le _,rfl,rfl,U HG⟩
   case round =>
    obtain ⟨k,fb,rfl,hk,rfl,hfb,hg⟩:=hrel
    have HGQ:=Y hg
    clear hg
    by_cases hki:k < i
    ·obtain ⟨y,hky⟩:∃ y,l[k]? = some y:=⟨_,yI (by omega)⟩
     obtain ⟨b',uM,kV,kw,qk⟩:=U HC k y hky
     simp only [Option.some.injEq,Addr.mk.injEq,and_true] at kV
     obtain ⟨rfl,rfl⟩:=kV
     have HFN:Hid (bU c (l.take (k + 1)) = (fb && difB c y)):=by
      show _ = _
      rw [takeR l k y hky,U hfb,bU,List.all_append]; simp [bU]
     obtain ⟨-,e1,e2,-⟩:=zF (zu (U ko) (U HGQ) X (by simp))
     obtain ⟨-,d1,d2,-⟩:=zF (zu qk (U HGQ) X (by simp))
     have hki':(k:Int) < i:=by omega
     have hkl':(k:Int) < l.length:=by omega
     have vl:∀ (fb':Bool),fb' = (fb && difB c y)→Hid (fb' = bU c (l.take (k + 1))):=fun fb' h=>by show _ = _; rw [h,U HFN]
     have vr:=Y vl
     clear hky qk vl
     cases fb
     ·go_wp2_with fail
      go_quiet (fail)
      go_wp2_with fail
      go_roundw
      case rel=>exact ⟨k + 1,false,rfl,by omega,by go_num,U vr _ rfl,cx (U HGQ) rfl rfl rfl rfl⟩
      case measure=>simp [intOf]; omega
     ·by_cases Q:y.side = c.side
      ·have oH:(y.side != c.side) = false:=by simpa using Q
       by_cases N:y.ticks = c.ticks
       ·have hd:(true && difB c y) = false:=by simp [difB,Q,N]
        go_wp2_with fail
        go_quiet (fail)
        go_wp2_with fail
        go_roundw
        case rel=>exact ⟨k + 1,false,by first | rfl | simp [N],by omega,by go_num,U vr _ hd.symm,cx (U HGQ) rfl rfl rfl rfl⟩
        case measure=>simp [intOf]; omega
       ·have hd:(true && difB c y) = true:=by simp [difB,N]
        go_wp2_with fail
        go_quiet (fail)
        go_wp2_with fail
        go_roundw
        case rel=>exact ⟨k + 1,true,by first | rfl | simp [N],by omega,by go_num,U vr _ hd.symm,cx (U HGQ) rfl rfl rfl rfl⟩
        case measure=>simp [intOf]; omega
      ·have oH:(y.side != c.side) = true:=by simpa using Q
       have hd:(true && difB c y) = true:=by simp [difB,Q]
       go_wp2_with fail
       go_quiet (fail)
       go_wp2_with fail
       go_roundw
       case rel=>exact ⟨k + 1,true,by first | rfl | simp,by omega,by go_num,U vr _ hd.symm,cx (U HGQ) rfl rfl rfl rfl⟩
       case measure=>simp [intOf]; omega
    ·obtain rfl:k = i:=by omega
     have HF:=hfb
     cases fb
     ·have HE:Hid (nlev (l.take (k + 1)) = n):=by show _ = _; rw [U HNN,← U HF]; rfl
      clear hfb
      go_wp2_with fail
      exact ⟨⟨k + 1,n,rfl,by omega,by go_num,(U HE).symm,by omega,U HGQ⟩,by simp [intOf]; omega⟩
     ·have HE:Hid (nlev (l.take (k + 1)) = n + 1):=by show _ = _; rw [U HNN,← U HF]; rfl
      clear hfb
      go_wp2_with fail
      exact ⟨⟨k + 1,n + 1,by go_num,by omega,by go_num,(U HE).symm,by omega,U HGQ⟩,by simp [intOf]; omega⟩
  ·go_wp2_with fail
   go_ret
   have h:=U hnl
   rw [xa (by omega)] at h
   subst h
   exact ⟨rfl,U HG⟩

theorem nex_stop {l:List Od} {t:Od} (h:t.left = 0):NexS l t (-1):=.inl ⟨rfl,.inl h⟩
theorem nex_none {l:List Od} {t:Od} (h:aV l (othS t.side) = none):NexS l t (-1):=.inl ⟨rfl,.inr (.inl h)⟩
theorem nex_no {l:List Od} {t o:Od} (h:aV l (othS t.side) = some o) (hc:bF t.side t.ticks o = false):NexS l t (-1):=.inl ⟨rfl,.inr (.inr ⟨o,h,hc⟩)⟩
theorem l04Next_any (v:Value) (l:List Od) (t:Od) (w:World) (hr:RdR Od.vs 6 w v l) (hri:bu l) (hn:l.length ≤ 1000) (uJ:t.side = 1 ∨ t.side = 2) :
  Calls Tryz.prog 135 #[v,.agg (yw t.id t.side t.ticks t.left t.life t.tag).toArray] w fun e w'=>∃ k:Int,e = .returned (H k)∧NexS l t k∧yn w w':=by
 have HR:=Y hr
 obtain ⟨a,A,rfl,xG,hc⟩:=hr
 have xr:∀ (k:Nat) (c:Od),l[k]? = some c→∃ b off,a = some (J b off)∧b < w.heap.size∧w.rangeAt b (off + k * 6) c.vs:=by
  intro k c hk
  obtain ⟨b,off,Q,N,h3⟩:=hc (by intro h; rw [h] at hk; simp at hk)
  exact ⟨b,off,Q,N,h3 k c hk⟩
 have HC:=Y xr
 have HRI:=Y hri
 have HOT:=Y (oth_of uJ)
 have xC:1 ≤ t.side:=by omega
 have ua:t.side ≤ 2:=by omega
 have xU:Hid (yn w (w.alloc (E (yw t.id t.side t.ticks t.left t.life t.tag).toArray 49))):=eE _ _
 have HX:Hid (World.rangeAt (w.alloc (E (yw t.id t.side t.ticks t.left t.life t.tag).toArray 49)) w.heap.size 0 t.vs∧w.heap.size < (w.alloc (E (yw t.id t.side t.ticks t.left t.life t.tag).toArray 49)).heap.size):=⟨zi w t.vs _,by rw [zh]; omega⟩
 clear xr hc hri uJ
 go_enter Tryz.func135,Tryz.ntmps135
 go_wp2_with fail
 generalize (w.alloc (E (yw t.id t.side t.ticks t.left t.life t.tag).toArray 49)) = W1 at xU HX ⊢
 refine (l03Front_any _ l _ W1 (zn (U HR) (U xU) tg) (U HRI) hn).mono ?_
 rintro e w2 ⟨k,rfl,hf,vM⟩
 have HF:=Y (front_pre (U HRI) hf)
 have xE:=Y ((U xU).trans ((gr_below' vM (fun g hg=>by cases hg) tg).mono (U xU).size))
 have HX2:=Y (zu (U HX).1 vM (U HX).2 (by simp))
 have pM:w.heap.size < w2.heap.size:=yK (U HX).2 vM.size
 have pZ:Hid (∀ (k:Nat) (c:Od),l[k]? = some c→∃ b off,a = some (J b off)∧b < w2.heap.size∧w2.rangeAt b (off + k * 6) c.vs):=fun k c hk=>by
  obtain ⟨b,off,Q,N,h3⟩:=U HC k c hk
  exact ⟨b,off,Q,by omega,zb h3 (U xE) N⟩
 obtain ⟨t0,t1,t2,t3,t4,t5⟩:=zF (U HX2)
 clear hf vM xC ua
 by_cases h0:t.left = 0
 ·have HN:=Y (nex_stop (l:=l) h0)
  have b0:(t.left == 0) = true:=by simpa using h0
  clear h0
  go_wp2_with fail
  go_quiet (fail)
  go_wp2_with fail
  go_ret
  exact ⟨_,rfl,U HN,cU (U xE) _⟩
 have b0:(t.left == 0) = false:=by simpa using h0
 rcases U HF with ⟨rfl,jc⟩ | ⟨i,o,rfl,hi,ox,hfo⟩
 ·have HN:=Y (nex_none (l:=l) (t:=t) (by rw [← U HOT]; exact jc))
  clear jc h0
  go_wp2_with fail
  go_quiet (fail)
  go_wp2_with fail
  go_ret
  exact ⟨_,rfl,U HN,cU (U xE) _⟩
 have HFO:Hid (aV l (othS t.side) = some o):=by rw [← U HOT]; exact hfo
 have HIO:=Y ox
 obtain ⟨b,off,rfl,X,xp⟩:=U pZ i o ox
 have HL0:=Y h0
 have HCEL:Hid (∀ w',w2.grownBy w' none→w'.rangeAt w.heap.size 0 t.vs∧w'.rangeAt b (off + i * 6) o.vs):=fun w' h'=>⟨zu (U HX2) h' pM (by simp),zu xp h' X (by simp)⟩
 have hlti:(i:Int) < l.length:=by omega
 have uG:¬ ((i:Int) < 0):=by omega
 have hi0':decide ((i:Int) < 0) = false:=by simp
 clear hfo ox xp h0 HF HOT
 go_wp2_with fail
 refine dh (W:=w2) (by kernel_rfl) (by kernel_rfl) (yS _ _) ?_
 iterate 16 (
  refine aZ (v:=?_) ?_ ?_ ?_
  rotate_left
  ·rfl
  ·intro w' un
   obtain ⟨c0,c1,c2,c3,c4,c5⟩:=zF (U HCEL w' un).1
   obtain ⟨d0,d1,d2,d3,d4,d5⟩:=zF (U HCEL w' un).2
   go_simp
   try rfl
  intro hR hK
  go_simp
  refine hK _ ?_
  clear hK hR)
 refine aZ (v:=.bool (bF t.side t.ticks o)) ?_ ?_ ?_
 ·rfl
 ·intro w' un
  go_simp
  refine (l04Crosses_any t.side t.ticks o _).mono ?_
  rintro e w3 ⟨rfl,uY⟩
  exact ⟨rfl,un.trans (aW uY tg)⟩
 intro hR hK
 go_simp
 refine hK _ ?_
 clear hK hR
 cases hcr:bF t.side t.ticks o
 ·have HN:=Y (nex_no (U HFO) hcr)
  iterate 2 (
   refine aZ (v:=?_) ?_ ?_ ?_
   rotate_left
   ·rfl
   ·intro w' un
    go_simp
    try rfl
   intro hR hK
   go_simp
   refine hK _ ?_
   clear hK hR)
  refine wpQuiet_nil ?_
  intro w3 uY
  have xQ:=Y ((U xE).grown uY (U xE).size (fun g hg=>by cases hg))
  clear uY
  go_wp2_with fail
  go_ret
  exact ⟨_,rfl,U HN,U xQ⟩
 ·have HN:Hid (NexS l t i):=.inr ⟨i,o,rfl,hi,U HIO,U HFO,hcr,U HL0⟩
  iterate 2 (
   refine aZ (v:=?_) ?_ ?_ ?_
   rotate_left
   ·rfl
   ·intro w' un
    go_simp
    try rfl
   intro hR hK
   go_simp
   refine hK _ ?_
   clear hK hR)
  refine wpQuiet_nil ?_
  intro w3 uY
  have xQ:=Y ((U xE).grown uY (U xE).size (fun g hg=>by cases hg))
  clear uY
  go_wp2_with fail
  go_ret
  exact ⟨_,rfl,U HN,U xQ⟩
end Go.Proofs.YtbakanofkghmiaaGreat
