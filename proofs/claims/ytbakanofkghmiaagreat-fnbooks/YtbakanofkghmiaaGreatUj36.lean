/-
  The model's small functions over a book: who is better, the front, how many levels: proved by walking them. (what walks the functions of the model or of the laws)
-/
import Derived.Test.YtbakanofkghmiaaGreatUj35
set_option linter.unusedVariables false
set_option maxHeartbeats 6400000
set_option maxRecDepth 100000
namespace Go.Proofs.YtbakanofkghmiaaGreat
open Go.RowKit
theorem l03Better_any (o c:Od) (w:World) :
  Calls Tryz.prog 131 #[.agg (yu o.id o.side o.ticks o.left o.life o.tag).toArray,.agg (yu c.id c.side c.ticks c.left c.life c.tag).toArray] w fun e w'=>e = .returned (.bool (ahdB o c))∧w.grownBy w' none:=by
 by_cases h:o.ticks = c.ticks
 ·have h':(o.ticks == c.ticks) = true:=by simpa using h
  have HA:Hid (ahdB o c = decide (o.id < c.id)):=if_pos h
  go_enter Tryz.func131,Tryz.ntmps131
  go_wp2_with fail
  go_ret
  exact ⟨zq (U HA).symm,(World.grownBy_alloc _ _ _).trans (World.grownBy_alloc _ _ _)⟩
 ·have HA:Hid (ahdB o c = (decide (c.ticks < o.ticks) == decide (o.side = 1))):=if_neg h
  go_enter Tryz.func131,Tryz.ntmps131
  go_wp2_with fail
  go_ret
  exact ⟨zq (by rw [U HA]; rfl),(World.grownBy_alloc _ _ _).trans (World.grownBy_alloc _ _ _)⟩
theorem l03Front_any (v:Value) (l:List Od) (sd:Int) (w:World) (hr:RdR Od.vs 6 w v l) (hri:aK l) (hn:l.length ≤ 1000) :
  Calls Tryz.prog 83 #[v,H sd] w fun e w'=>∃ k:Int,e = .returned (H k)∧FrPre l sd l.length k∧w.grownBy w' none:=by
 obtain ⟨a,A,rfl,xC,hc⟩:=hr
 have xo:∀ (k:Nat) (c:Od),l[k]? = some c→∃ b off,a = some (J b off)∧b < w.heap.size∧w.rangeAt b (off + k * 6) c.vs:=by
  intro k c hk
  obtain ⟨b,off,G,D,h3⟩:=hc (by intro h; rw [h] at hk; simp at hk)
  exact ⟨b,off,G,D,h3 k c hk⟩
 have HC:=Y xo
 have HRI:=Y hri
 clear xo hc hri
 go_enter Tryz.func83,Tryz.ntmps83
 go_wp2_with fail
 go_loopw [5,6] (fun bv iv wr=>∃ (k:Nat) (best:Int),bv = H best∧k ≤ l.length∧iv = H k∧Hid (FrPre l sd k best)∧w.grownBy wr none) (fun _ iv _=>l.length - (intOf iv).toNat)
 case atStart=>exact ⟨0,-1,rfl,Nat.zero_le _,rfl,.inl ⟨rfl,fun j o K=>by omega⟩,yP _ _⟩
 case round =>
  obtain ⟨k,best,rfl,hk,rfl,oC,hg⟩:=hrel
  have HG:=Y hg
  clear hg
  by_cases xI:k < l.length
  ·obtain ⟨c,uJ⟩:∃ c,l[k]? = some c:=⟨_,yF xI⟩
   obtain ⟨b,off,rfl,O,X⟩:=U HC k c uJ
   have jM:=Y uJ
   obtain ⟨g0,g1,g2,g3,g4,g5⟩:=zz (zu X (U HG) O (by simp))
   have uu:(k:Int) < l.length:=by omega
   have HCL:=Y X
   have HHB:=Y O
   clear uJ X
   by_cases hs:c.side = sd
   ·subst hs
    rcases U oC with ⟨rfl,jc⟩ | ⟨i,o,rfl,hi,ol,oX,hah⟩
    ·have HN:=Y (frPre_first (U oC) (U jM) rfl)
     clear jc
     go_wp2_with fail
     go_quiet (fail)
     go_wp2_with fail
     go_roundw
     case rel=>exact ⟨k + 1,k,rfl,by omega,by go_num,U HN,bU (U HG) rfl rfl rfl rfl⟩
     case measure=>simp [intOf]; omega
    ·obtain ⟨b',ux,kP,ko,vP⟩:=U HC i o ol
     simp only [Option.some.injEq,Addr.mk.injEq,and_true] at kP
     obtain ⟨rfl,rfl⟩:=kP
     obtain ⟨e0,e1,e2,e3,e4,e5⟩:=zz (zu vP (U HG) O (by simp))
     have hlti:(i:Int) < l.length:=by have:=(yE.1 ol).1; omega
     have uE:¬ ((i:Int) < 0):=by omega
     have hi0':decide ((i:Int) < 0) = false:=by simp
     have HCEL:Hid (∀ w',wr.grownBy w' none→w'.rangeAt b (off + k * 6) c.vs∧w'.rangeAt b (off + i * 6) o.vs):=fun w' h'=>⟨zu (zu (U HCL) (U HG) O (by simp)) h' (yH O (U HG).size) (by simp),zu (zu vP (U HG) O (by simp)) h' (yH O (U HG).size) (by simp)⟩
     have HHI:Hid (l[i]? = some o):=ol
     clear hah ol vP oX
     go_wp2_with fail
     refine dd (W:=wr) (by kernel_rfl) (by kernel_rfl) (yP _ _) ?_
     iterate 19 (
      refine aR (v:=?_) ?_ ?_ ?_
      rotate_left
      ·rfl
      ·intro w' ul
       obtain ⟨c0,c1,c2,c3,c4,c5⟩:=zz (U HCEL w' ul).1
       obtain ⟨d0,d1,d2,d3,d4,d5⟩:=zz (U HCEL w' ul).2
       go_simp
       try rfl
      intro hj hK
      go_simp
      refine hK _ ?_
      clear hK hj)
     refine aR (v:=.bool (ahdB c o)) ?_ ?_ ?_
     ·rfl
     ·intro w' ul
      go_simp
      refine (l03Better_any c o _).mono ?_
      rintro e w3 ⟨rfl,vh⟩
      exact ⟨rfl,ul.trans vh⟩
     intro hj hK
     go_simp
     refine hK _ ?_
     clear hK hj
     iterate 2 (
      refine aR (v:=?_) ?_ ?_ ?_
      rotate_left
      ·rfl
      ·intro w' ul
       go_simp
       try rfl
      intro hj hK
      go_simp
      refine hK _ ?_
      clear hK hj)
     refine wpQuiet_nil ?_
     intro w2 qc
     have uN:=Y ((U HG).trans qc)
     clear qc g0 g1 g2 g3 g4 g5 e0 e1 e2 e3 e4 e5
     cases hah:ahdB c o
     ·have HN:=Y (frPre_worse (U HRI) (U oC) (U HHI) (U jM) rfl hah)
      go_wp2_with fail
      go_roundw
      case rel=>exact ⟨k + 1,i,rfl,by omega,by go_num,U HN,U uN⟩
      case measure=>simp [intOf]; omega
     ·have HN:=Y (frPre_better (U HRI) (U oC) (U HHI) (U jM) rfl hah)
      go_wp2_with fail
      go_roundw
      case rel=>exact ⟨k + 1,k,rfl,by omega,by go_num,U HN,U uN⟩
      case measure=>simp [intOf]; omega
   ·have HN:=Y (frPre_skip (U oC) (U jM) hs)
    have hs':(c.side == sd) = false:=by simpa using hs
    go_wp2_with fail
    go_quiet (fail)
    go_wp2_with fail
    go_roundw
    case rel=>exact ⟨k + 1,best,rfl,by omega,by go_num,U HN,bU (U HG) rfl rfl rfl rfl⟩
    case measure=>simp [intOf]; omega
  ·go_wp2_with fail
   go_ret
   have h:=U oC
   rw [show k = l.length by omega] at h
   exact ⟨_,rfl,h,U HG⟩
theorem l03Levels_any (v:Value) (l:List Od) (w:World) (hr:RdR Od.vs 6 w v l) (hn:l.length ≤ 1000) :
  Calls Tryz.prog 82 #[v] w fun e w'=>e = .returned (H (nlev l:Nat))∧w.grownBy w' none:=by
 obtain ⟨a,A,rfl,xC,hc⟩:=hr
 have xo:∀ (k:Nat) (c:Od),l[k]? = some c→∃ b off,a = some (J b off)∧b < w.heap.size∧w.rangeAt b (off + k * 6) c.vs:=by
  intro k c hk
  obtain ⟨b,off,G,D,h3⟩:=hc (by intro h; rw [h] at hk; simp at hk)
  exact ⟨b,off,G,D,h3 k c hk⟩
 have HC:=Y xo
 clear xo hc
 go_enter Tryz.func82,Tryz.ntmps82
 go_wp2_with fail
 go_loopw [3,4] (fun nv iv wr=>∃ (i n:Nat),nv = H n∧i ≤ l.length∧iv = H i∧Hid (n = nlev (l.take i))∧n ≤ i∧w.grownBy wr none) (fun _ iv _=>l.length - (intOf iv).toNat)
 case atStart=>exact ⟨0,0,rfl,Nat.zero_le _,rfl,by simp [Hid,nlev,nlevR],Nat.le_refl _,yP _ _⟩
 case round =>
  obtain ⟨i,n,rfl,hi,rfl,hnl,hni,hg⟩:=hrel
  have HG:=Y hg
  clear hg
  by_cases xI:i < l.length
  ·obtain ⟨c,uJ⟩:∃ c,l[i]? = some c:=⟨_,yF xI⟩
   obtain ⟨b,off,rfl,O,X⟩:=U HC i c uJ
   have jM:=Y uJ
   have HCL:=Y X
   have uu:(i:Int) < l.length:=by omega
   have HNN:Hid (nlev (l.take (i + 1)) = n + (bN c (l.take i)).toNat):=by
    show _ = _
    rw [takeR l i c uJ,nlev_fresh,← U hnl]
   clear uJ X hnl
   go_wp2_with fail
   go_loopw [5,6] (fun fv kv wq=>∃ (k:Nat) (fb:Bool),fv = .bool fb∧k ≤ i∧kv = H k∧Hid (fb = bN c (l.take k))∧w.grownBy wq none) (fun _ kv _=>i - (intOf kv).toNat)
   case atStart=>exact ⟨0,true,rfl,Nat.zero_le _,rfl,rfl,U HG⟩
   case round =>
    obtain ⟨k,fb,rfl,hk,rfl,hfb,hg⟩:=hrel
    have HGQ:=Y hg
    clear hg
    by_cases hki:k < i
    ·obtain ⟨y,hky⟩:∃ y,l[k]? = some y:=⟨_,yF (by omega)⟩
     obtain ⟨b',ux,kP,ko,vP⟩:=U HC k y hky
     simp only [Option.some.injEq,Addr.mk.injEq,and_true] at kP
     obtain ⟨rfl,rfl⟩:=kP
     have HFN:Hid (bN c (l.take (k + 1)) = (fb && difB c y)):=by
      show _ = _
      rw [takeR l k y hky,U hfb,bN,List.all_append]; simp [bN]
     obtain ⟨-,e1,e2,-⟩:=zz (zu (U HCL) (U HGQ) O (by simp))
     obtain ⟨-,d1,d2,-⟩:=zz (zu vP (U HGQ) O (by simp))
     have hki':(k:Int) < i:=by omega
     have hkl':(k:Int) < l.length:=by omega
     have vj:∀ (fb':Bool),fb' = (fb && difB c y)→Hid (fb' = bN c (l.take (k + 1))):=fun fb' h=>by show _ = _; rw [h,U HFN]
     have vr:=Y vj
     clear hky vP vj
     cases fb
     ·go_wp2_with fail
      go_quiet (fail)
      go_wp2_with fail
      go_roundw
      case rel=>exact ⟨k + 1,false,rfl,by omega,by go_num,U vr _ rfl,bU (U HGQ) rfl rfl rfl rfl⟩
      case measure=>simp [intOf]; omega
     ·by_cases G:y.side = c.side
      ·have kn:(y.side != c.side) = false:=by simpa using G
       by_cases D:y.ticks = c.ticks
       ·have hd:(true && difB c y) = false:=by simp [difB,G,D]
        go_wp2_with fail
        go_quiet (fail)
        go_wp2_with fail
        go_roundw
        case rel=>exact ⟨k + 1,false,by first | rfl | simp [D],by omega,by go_num,U vr _ hd.symm,bU (U HGQ) rfl rfl rfl rfl⟩
        case measure=>simp [intOf]; omega
       ·have hd:(true && difB c y) = true:=by simp [difB,D]
        go_wp2_with fail
        go_quiet (fail)
        go_wp2_with fail
        go_roundw
        case rel=>exact ⟨k + 1,true,by first | rfl | simp [D],by omega,by go_num,U vr _ hd.symm,bU (U HGQ) rfl rfl rfl rfl⟩
        case measure=>simp [intOf]; omega
      ·have kn:(y.side != c.side) = true:=by simpa using G
       have hd:(true && difB c y) = true:=by simp [difB,G]
       go_wp2_with fail
       go_quiet (fail)
       go_wp2_with fail
       go_roundw
       case rel=>exact ⟨k + 1,true,by first | rfl | simp,by omega,by go_num,U vr _ hd.symm,bU (U HGQ) rfl rfl rfl rfl⟩
       case measure=>simp [intOf]; omega
    ·obtain rfl:k = i:=by omega
     have HF:=hfb
     cases fb
     ·have HE:Hid (nlev (l.take (k + 1)) = n):=by show _ = _; rw [U HNN,← U HF]; rfl
      clear hfb
      go_wp2_with fail
      exact ⟨⟨k + 1,n,rfl,by omega,by go_num,(U HE).symm,by omega,U HGQ⟩,by simp [intOf]; omega⟩
     ·have HE:Hid (nlev (l.take (k + 1)) = n + 1):=by show _ = _; rw [U HNN,← U HF]; rfl
      clear hfb
      go_wp2_with fail
      exact ⟨⟨k + 1,n + 1,by go_num,by omega,by go_num,(U HE).symm,by omega,U HGQ⟩,by simp [intOf]; omega⟩
  ·go_wp2_with fail
   go_ret
   have h:=U hnl
   rw [yX (by omega)] at h
   subst h
   exact ⟨rfl,U HG⟩

theorem nex_stop {l:List Od} {t:Od} (h:t.left = 0):NexS l t (-1):=.inl ⟨rfl,.inl h⟩
theorem nex_none {l:List Od} {t:Od} (h:aI l (othS t.side) = none):NexS l t (-1):=.inl ⟨rfl,.inr (.inl h)⟩
theorem nex_no {l:List Od} {t o:Od} (h:aI l (othS t.side) = some o) (hc:br t.side t.ticks o = false):NexS l t (-1):=.inl ⟨rfl,.inr (.inr ⟨o,h,hc⟩)⟩
theorem l04Next_any (v:Value) (l:List Od) (t:Od) (w:World) (hr:RdR Od.vs 6 w v l) (hri:aK l) (hn:l.length ≤ 1000) (uC:t.side = 1 ∨ t.side = 2) :
  Calls Tryz.prog 135 #[v,.agg (yu t.id t.side t.ticks t.left t.life t.tag).toArray] w fun e w'=>∃ k:Int,e = .returned (H k)∧NexS l t k∧ym w w':=by
 have HR:=Y hr
 obtain ⟨a,A,rfl,xC,hc⟩:=hr
 have xo:∀ (k:Nat) (c:Od),l[k]? = some c→∃ b off,a = some (J b off)∧b < w.heap.size∧w.rangeAt b (off + k * 6) c.vs:=by
  intro k c hk
  obtain ⟨b,off,G,D,h3⟩:=hc (by intro h; rw [h] at hk; simp at hk)
  exact ⟨b,off,G,D,h3 k c hk⟩
 have HC:=Y xo
 have HRI:=Y hri
 have HOT:=Y (oth_of uC)
 have xz:1 ≤ t.side:=by omega
 have xZ:t.side ≤ 2:=by omega
 have xW:Hid (ym w (w.alloc (N (yu t.id t.side t.ticks t.left t.life t.tag).toArray 49))):=eB _ _
 have HX:Hid (World.rangeAt (w.alloc (N (yu t.id t.side t.ticks t.left t.life t.tag).toArray 49)) w.heap.size 0 t.vs∧w.heap.size < (w.alloc (N (yu t.id t.side t.ticks t.left t.life t.tag).toArray 49)).heap.size):=⟨zg w t.vs _,by rw [zf]; omega⟩
 clear xo hc hri uC
 go_enter Tryz.func135,Tryz.ntmps135
 go_wp2_with fail
 generalize (w.alloc (N (yu t.id t.side t.ticks t.left t.life t.tag).toArray 49)) = W1 at xW HX ⊢
 refine (l03Front_any _ l _ W1 (zh (U HR) (U xW) hb) (U HRI) hn).mono ?_
 rintro e w2 ⟨k,rfl,hf,qc⟩
 have HF:=Y (front_pre (U HRI) hf)
 have xD:=Y ((U xW).trans ((gr_below' qc (fun g hg=>by cases hg) hb).mono (U xW).size))
 have ai:=Y (zu (U HX).1 qc (U HX).2 (by simp))
 have pF:w.heap.size < w2.heap.size:=yH (U HX).2 qc.size
 have HC2:Hid (∀ (k:Nat) (c:Od),l[k]? = some c→∃ b off,a = some (J b off)∧b < w2.heap.size∧w2.rangeAt b (off + k * 6) c.vs):=fun k c hk=>by
  obtain ⟨b,off,G,D,h3⟩:=U HC k c hk
  exact ⟨b,off,G,by omega,zb h3 (U xD) D⟩
 obtain ⟨t0,t1,t2,t3,t4,t5⟩:=zz (U ai)
 clear hf qc xz xZ
 by_cases h0:t.left = 0
 ·have HN:=Y (nex_stop (l:=l) h0)
  have b0:(t.left == 0) = true:=by simpa using h0
  clear h0
  go_wp2_with fail
  go_quiet (fail)
  go_wp2_with fail
  go_ret
  exact ⟨_,rfl,U HN,cA (U xD) _⟩
 have b0:(t.left == 0) = false:=by simpa using h0
 rcases U HF with ⟨rfl,jc⟩ | ⟨i,o,rfl,hi,ol,hfo⟩
 ·have HN:=Y (nex_none (l:=l) (t:=t) (by rw [← U HOT]; exact jc))
  clear jc h0
  go_wp2_with fail
  go_quiet (fail)
  go_wp2_with fail
  go_ret
  exact ⟨_,rfl,U HN,cA (U xD) _⟩
 have HFO:Hid (aI l (othS t.side) = some o):=by rw [← U HOT]; exact hfo
 have HIO:=Y ol
 obtain ⟨b,off,rfl,O,X⟩:=U HC2 i o ol
 have HL0:=Y h0
 have HCEL:Hid (∀ w',w2.grownBy w' none→w'.rangeAt w.heap.size 0 t.vs∧w'.rangeAt b (off + i * 6) o.vs):=fun w' h'=>⟨zu (U ai) h' pF (by simp),zu X h' O (by simp)⟩
 have hlti:(i:Int) < l.length:=by omega
 have uE:¬ ((i:Int) < 0):=by omega
 have hi0':decide ((i:Int) < 0) = false:=by simp
 clear hfo ol X h0 HF HOT
 go_wp2_with fail
 refine dd (W:=w2) (by kernel_rfl) (by kernel_rfl) (yP _ _) ?_
 iterate 16 (
  refine aR (v:=?_) ?_ ?_ ?_
  rotate_left
  ·rfl
  ·intro w' ul
   obtain ⟨c0,c1,c2,c3,c4,c5⟩:=zz (U HCEL w' ul).1
   obtain ⟨d0,d1,d2,d3,d4,d5⟩:=zz (U HCEL w' ul).2
   go_simp
   try rfl
  intro hj hK
  go_simp
  refine hK _ ?_
  clear hK hj)
 refine aR (v:=.bool (br t.side t.ticks o)) ?_ ?_ ?_
 ·rfl
 ·intro w' ul
  go_simp
  refine (l04Crosses_any t.side t.ticks o _).mono ?_
  rintro e w3 ⟨rfl,vh⟩
  exact ⟨rfl,ul.trans (aO vh hb)⟩
 intro hj hK
 go_simp
 refine hK _ ?_
 clear hK hj
 cases hcr:br t.side t.ticks o
 ·have HN:=Y (nex_no (U HFO) hcr)
  iterate 2 (
   refine aR (v:=?_) ?_ ?_ ?_
   rotate_left
   ·rfl
   ·intro w' ul
    go_simp
    try rfl
   intro hj hK
   go_simp
   refine hK _ ?_
   clear hK hj)
  refine wpQuiet_nil ?_
  intro w3 vh
  have xP:=Y ((U xD).grown vh (U xD).size (fun g hg=>by cases hg))
  clear vh
  go_wp2_with fail
  go_ret
  exact ⟨_,rfl,U HN,U xP⟩
 ·have HN:Hid (NexS l t i):=.inr ⟨i,o,rfl,hi,U HIO,U HFO,hcr,U HL0⟩
  iterate 2 (
   refine aR (v:=?_) ?_ ?_ ?_
   rotate_left
   ·rfl
   ·intro w' ul
    go_simp
    try rfl
   intro hj hK
   go_simp
   refine hK _ ?_
   clear hK hj)
  refine wpQuiet_nil ?_
  intro w3 vh
  have xP:=Y ((U xD).grown vh (U xD).size (fun g hg=>by cases hg))
  clear vh
  go_wp2_with fail
  go_ret
  exact ⟨_,rfl,U HN,U xP⟩
end Go.Proofs.YtbakanofkghmiaaGreat
