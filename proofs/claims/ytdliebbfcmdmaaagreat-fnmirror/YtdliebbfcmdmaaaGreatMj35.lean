/-
  The model's small functions over a book: who is better, the front, how many levels: proved by walking them. (what walks the functions of the model or of the laws)
-/
import Derived.Test.YtdliebbfcmdmaaaGreatMj27
set_option linter.unusedVariables false
set_option maxHeartbeats 6400000
set_option maxRecDepth 100000
namespace Go.Proofs.YtdliebbfcmdmaaaGreat
open Go.RowKit
theorem l03Better_any (o c:Od) (w:World) :
  Calls Tryz.prog 105 #[.agg (yv o.id o.side o.ticks o.left o.life o.tag).toArray,.agg (yv c.id c.side c.ticks c.left c.life c.tag).toArray] w fun e w'=>e = .returned (.bool (ahdB o c))∧w.grownBy w' none:=by
 by_cases h:o.ticks = c.ticks
 ·have h':(o.ticks == c.ticks) = true:=by simpa using h
  have HA:Hid (ahdB o c = decide (o.id < c.id)):=if_pos h
  go_enter Tryz.func105,Tryz.ntmps105
  go_wp2_with fail
  go_ret
  exact ⟨zy (U HA).symm,(World.grownBy_alloc _ _ _).trans (World.grownBy_alloc _ _ _)⟩
 ·have HA:Hid (ahdB o c = (decide (c.ticks < o.ticks) == decide (o.side = 1))):=if_neg h
  go_enter Tryz.func105,Tryz.ntmps105
  go_wp2_with fail
  go_ret
  exact ⟨zy (by rw [U HA]; rfl),(World.grownBy_alloc _ _ _).trans (World.grownBy_alloc _ _ _)⟩
theorem l03Front_any (v:Value) (l:List Od) (sd:Int) (w:World) (hr:RdR Od.vs 6 w v l) (hri:ba l) (hn:l.length ≤ 1000) :
  Calls Tryz.prog 95 #[v,H sd] w fun e w'=>∃ k:Int,e = .returned (H k)∧FrPre l sd l.length k∧w.grownBy w' none:=by
 obtain ⟨a,A,rfl,xD,hc⟩:=hr
 have xq:∀ (k:Nat) (c:Od),l[k]? = some c→∃ b off,a = some (J b off)∧b < w.heap.size∧w.rangeAt b (off + k * 6) c.vs:=by
  intro k c hk
  obtain ⟨b,off,Q,N,h3⟩:=hc (by intro h; rw [h] at hk; simp at hk)
  exact ⟨b,off,Q,N,h3 k c hk⟩
 have HC:=Y xq
 have HRI:=Y hri
 clear xq hc hri
 go_enter Tryz.func95,Tryz.ntmps95
 go_wp2_with fail
 go_loopw [5,6] (fun bv iv wr=>∃ (k:Nat) (best:Int),bv = H best∧k ≤ l.length∧iv = H k∧Hid (FrPre l sd k best)∧w.grownBy wr none) (fun _ iv _=>l.length - (intOf iv).toNat)
 case atStart=>exact ⟨0,-1,rfl,Nat.zero_le _,rfl,.inl ⟨rfl,fun j o R=>by omega⟩,yR _ _⟩
 case round =>
  obtain ⟨k,best,rfl,hk,rfl,oJ,hg⟩:=hrel
  have HG:=Y hg
  clear hg
  by_cases xK:k < l.length
  ·obtain ⟨c,vd⟩:∃ c,l[k]? = some c:=⟨_,yH xK⟩
   obtain ⟨b,off,rfl,L,xo⟩:=U HC k c vd
   have jP:=Y vd
   obtain ⟨g0,g1,g2,g3,g4,g5⟩:=zC (zq xo (U HG) L (by simp))
   have uv:(k:Int) < l.length:=by omega
   have qk:=Y xo
   have HHB:=Y L
   clear vd xo
   by_cases hs:c.side = sd
   ·subst hs
    rcases U oJ with ⟨rfl,ja⟩ | ⟨i,o,rfl,hi,oo,pf,hah⟩
    ·have HN:=Y (frPre_first (U oJ) (U jP) rfl)
     clear ja
     go_wp2_with fail
     go_quiet (fail)
     go_wp2_with fail
     go_roundw
     case rel=>exact ⟨k + 1,k,rfl,by omega,by go_num,U HN,bR (U HG) rfl rfl rfl rfl⟩
     case measure=>simp [intOf]; omega
    ·obtain ⟨b',uJ,kV,kL,qu⟩:=U HC i o oo
     simp only [Option.some.injEq,Addr.mk.injEq,and_true] at kV
     obtain ⟨rfl,rfl⟩:=kV
     obtain ⟨e0,e1,e2,e3,e4,e5⟩:=zC (zq qu (U HG) L (by simp))
     have hlti:(i:Int) < l.length:=by have:=(yG.1 oo).1; omega
     have uE:¬ ((i:Int) < 0):=by omega
     have hi0':decide ((i:Int) < 0) = false:=by simp
     have HCEL:Hid (∀ w',wr.grownBy w' none→w'.rangeAt b (off + k * 6) c.vs∧w'.rangeAt b (off + i * 6) o.vs):=fun w' h'=>⟨zq (zq (U qk) (U HG) L (by simp)) h' (yJ L (U HG).size) (by simp),zq (zq qu (U HG) L (by simp)) h' (yJ L (U HG).size) (by simp)⟩
     have HHI:Hid (l[i]? = some o):=oo
     clear hah oo qu pf
     go_wp2_with fail
     refine cT (W:=wr) (by kernel_rfl) (by kernel_rfl) (yR _ _) ?_
     iterate 19 (
      refine aP (v:=?_) ?_ ?_ ?_
      rotate_left
      ·rfl
      ·intro w' ul
       obtain ⟨c0,c1,c2,c3,c4,c5⟩:=zC (U HCEL w' ul).1
       obtain ⟨d0,d1,d2,d3,d4,d5⟩:=zC (U HCEL w' ul).2
       go_simp
       try rfl
      intro hR hK
      go_simp
      refine hK _ ?_
      clear hK hR)
     refine aP (v:=.bool (ahdB c o)) ?_ ?_ ?_
     ·rfl
     ·intro w' ul
      go_simp
      refine (l03Better_any c o _).mono ?_
      rintro e w3 ⟨rfl,uW⟩
      exact ⟨rfl,ul.trans uW⟩
     intro hR hK
     go_simp
     refine hK _ ?_
     clear hK hR
     iterate 2 (
      refine aP (v:=?_) ?_ ?_ ?_
      rotate_left
      ·rfl
      ·intro w' ul
       go_simp
       try rfl
      intro hR hK
      go_simp
      refine hK _ ?_
      clear hK hR)
     refine wpQuiet_nil ?_
     intro w2 vN
     have uL:=Y ((U HG).trans vN)
     clear vN g0 g1 g2 g3 g4 g5 e0 e1 e2 e3 e4 e5
     cases hah:ahdB c o
     ·have HN:=Y (frPre_worse (U HRI) (U oJ) (U HHI) (U jP) rfl hah)
      go_wp2_with fail
      go_roundw
      case rel=>exact ⟨k + 1,i,rfl,by omega,by go_num,U HN,U uL⟩
      case measure=>simp [intOf]; omega
     ·have HN:=Y (frPre_better (U HRI) (U oJ) (U HHI) (U jP) rfl hah)
      go_wp2_with fail
      go_roundw
      case rel=>exact ⟨k + 1,k,rfl,by omega,by go_num,U HN,U uL⟩
      case measure=>simp [intOf]; omega
   ·have HN:=Y (frPre_skip (U oJ) (U jP) hs)
    have hs':(c.side == sd) = false:=by simpa using hs
    go_wp2_with fail
    go_quiet (fail)
    go_wp2_with fail
    go_roundw
    case rel=>exact ⟨k + 1,best,rfl,by omega,by go_num,U HN,bR (U HG) rfl rfl rfl rfl⟩
    case measure=>simp [intOf]; omega
  ·go_wp2_with fail
   go_ret
   have h:=U oJ
   rw [show k = l.length by omega] at h
   exact ⟨_,rfl,h,U HG⟩
theorem nex_stop {l:List Od} {t:Od} (h:t.left = 0):NexS l t (-1):=.inl ⟨rfl,.inl h⟩
theorem nex_none {l:List Od} {t:Od} (h:aJ l (othS t.side) = none):NexS l t (-1):=.inl ⟨rfl,.inr (.inl h)⟩
theorem nex_no {l:List Od} {t o:Od} (h:aJ l (othS t.side) = some o) (hc:bm t.side t.ticks o = false):NexS l t (-1):=.inl ⟨rfl,.inr (.inr ⟨o,h,hc⟩)⟩
theorem l04Next_any (v:Value) (l:List Od) (t:Od) (w:World) (hr:RdR Od.vs 6 w v l) (hri:ba l) (hn:l.length ≤ 1000) (uF:t.side = 1 ∨ t.side = 2) :
  Calls Tryz.prog 72 #[v,.agg (yv t.id t.side t.ticks t.left t.life t.tag).toArray] w fun e w'=>∃ k:Int,e = .returned (H k)∧NexS l t k∧yn w w':=by
 have HR:=Y hr
 obtain ⟨a,A,rfl,xD,hc⟩:=hr
 have xq:∀ (k:Nat) (c:Od),l[k]? = some c→∃ b off,a = some (J b off)∧b < w.heap.size∧w.rangeAt b (off + k * 6) c.vs:=by
  intro k c hk
  obtain ⟨b,off,Q,N,h3⟩:=hc (by intro h; rw [h] at hk; simp at hk)
  exact ⟨b,off,Q,N,h3 k c hk⟩
 have HC:=Y xq
 have HRI:=Y hri
 have HOT:=Y (oth_of uF)
 have xA:1 ≤ t.side:=by omega
 have uc:t.side ≤ 2:=by omega
 have xW:Hid (yn w (w.alloc (E (yv t.id t.side t.ticks t.left t.life t.tag).toArray 66))):=ed _ _
 have HX:Hid (World.rangeAt (w.alloc (E (yv t.id t.side t.ticks t.left t.life t.tag).toArray 66)) w.heap.size 0 t.vs∧w.heap.size < (w.alloc (E (yv t.id t.side t.ticks t.left t.life t.tag).toArray 66)).heap.size):=⟨zg w t.vs _,by rw [ze]; omega⟩
 clear xq hc hri uF
 go_enter Tryz.func72,Tryz.ntmps72
 go_wp2_with fail
 generalize (w.alloc (E (yv t.id t.side t.ticks t.left t.life t.tag).toArray 66)) = W1 at xW HX ⊢
 refine (l03Front_any _ l _ W1 (zl (U HR) (U xW) tg) (U HRI) hn).mono ?_
 rintro e w2 ⟨k,rfl,hf,vN⟩
 have HF:=Y (front_pre (U HRI) hf)
 have xF:=Y ((U xW).trans ((gr_below' vN (fun g hg=>by cases hg) tg).mono (U xW).size))
 have HX2:=Y (zq (U HX).1 vN (U HX).2 (by simp))
 have oP:w.heap.size < w2.heap.size:=yJ (U HX).2 vN.size
 have pU:Hid (∀ (k:Nat) (c:Od),l[k]? = some c→∃ b off,a = some (J b off)∧b < w2.heap.size∧w2.rangeAt b (off + k * 6) c.vs):=fun k c hk=>by
  obtain ⟨b,off,Q,N,h3⟩:=U HC k c hk
  exact ⟨b,off,Q,by omega,zb h3 (U xF) N⟩
 obtain ⟨t0,t1,t2,t3,t4,t5⟩:=zC (U HX2)
 clear hf vN xA uc
 by_cases h0:t.left = 0
 ·have HN:=Y (nex_stop (l:=l) h0)
  have b0:(t.left == 0) = true:=by simpa using h0
  clear h0
  go_wp2_with fail
  go_quiet (fail)
  go_wp2_with fail
  go_ret
  exact ⟨_,rfl,U HN,cH (U xF) _⟩
 have b0:(t.left == 0) = false:=by simpa using h0
 rcases U HF with ⟨rfl,ja⟩ | ⟨i,o,rfl,hi,oo,hfo⟩
 ·have HN:=Y (nex_none (l:=l) (t:=t) (by rw [← U HOT]; exact ja))
  clear ja h0
  go_wp2_with fail
  go_quiet (fail)
  go_wp2_with fail
  go_ret
  exact ⟨_,rfl,U HN,cH (U xF) _⟩
 have HFO:Hid (aJ l (othS t.side) = some o):=by rw [← U HOT]; exact hfo
 have HIO:=Y oo
 obtain ⟨b,off,rfl,L,xo⟩:=U pU i o oo
 have HL0:=Y h0
 have HCEL:Hid (∀ w',w2.grownBy w' none→w'.rangeAt w.heap.size 0 t.vs∧w'.rangeAt b (off + i * 6) o.vs):=fun w' h'=>⟨zq (U HX2) h' oP (by simp),zq xo h' L (by simp)⟩
 have hlti:(i:Int) < l.length:=by omega
 have uE:¬ ((i:Int) < 0):=by omega
 have hi0':decide ((i:Int) < 0) = false:=by simp
 clear hfo oo xo h0 HF HOT
 go_wp2_with fail
 refine cT (W:=w2) (by kernel_rfl) (by kernel_rfl) (yR _ _) ?_
 iterate 16 (
  refine aP (v:=?_) ?_ ?_ ?_
  rotate_left
  ·rfl
  ·intro w' ul
   obtain ⟨c0,c1,c2,c3,c4,c5⟩:=zC (U HCEL w' ul).1
   obtain ⟨d0,d1,d2,d3,d4,d5⟩:=zC (U HCEL w' ul).2
   go_simp
   try rfl
  intro hR hK
  go_simp
  refine hK _ ?_
  clear hK hR)
 refine aP (v:=.bool (bm t.side t.ticks o)) ?_ ?_ ?_
 ·rfl
 ·intro w' ul
  go_simp
  refine (l04Crosses_any t.side t.ticks o _).mono ?_
  rintro e w3 ⟨rfl,uW⟩
  exact ⟨rfl,ul.trans (zX uW tg)⟩
 intro hR hK
 go_simp
 refine hK _ ?_
 clear hK hR
 cases hcr:bm t.side t.ticks o
 ·have HN:=Y (nex_no (U HFO) hcr)
  iterate 2 (
   refine aP (v:=?_) ?_ ?_ ?_
   rotate_left
   ·rfl
   ·intro w' ul
    go_simp
    try rfl
   intro hR hK
   go_simp
   refine hK _ ?_
   clear hK hR)
  refine wpQuiet_nil ?_
  intro w3 uW
  have xT:=Y ((U xF).grown uW (U xF).size (fun g hg=>by cases hg))
  clear uW
  go_wp2_with fail
  go_ret
  exact ⟨_,rfl,U HN,U xT⟩
 ·have HN:Hid (NexS l t i):=.inr ⟨i,o,rfl,hi,U HIO,U HFO,hcr,U HL0⟩
  iterate 2 (
   refine aP (v:=?_) ?_ ?_ ?_
   rotate_left
   ·rfl
   ·intro w' ul
    go_simp
    try rfl
   intro hR hK
   go_simp
   refine hK _ ?_
   clear hK hR)
  refine wpQuiet_nil ?_
  intro w3 uW
  have xT:=Y ((U xF).grown uW (U xF).size (fun g hg=>by cases hg))
  clear uW
  go_wp2_with fail
  go_ret
  exact ⟨_,rfl,U HN,U xT⟩
end Go.Proofs.YtdliebbfcmdmaaaGreat
