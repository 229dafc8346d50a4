/-
  The order with which a taker trades next, by the model: proved by walking the function.
-/
import Derived.Test.YtbakanofkghmiaaGreatWj35
set_option linter.unusedVariables false
set_option maxHeartbeats 6400000
set_option maxRecDepth 100000
namespace Go.Proofs.YtbakanofkghmiaaGreat
open Go.RowKit
theorem nex_stop {l:List Od} {t:Od} (h:t.left = 0):NexS l t (-1):=.inl ⟨rfl,.inl h⟩
theorem nex_none {l:List Od} {t:Od} (h:aU l (othS t.side) = none):NexS l t (-1):=.inl ⟨rfl,.inr (.inl h)⟩
theorem nex_no {l:List Od} {t o:Od} (h:aU l (othS t.side) = some o) (hc:bI t.side t.ticks o = false):NexS l t (-1):=.inl ⟨rfl,.inr (.inr ⟨o,h,hc⟩)⟩
theorem l04Next_any (v:Value) (l:List Od) (t:Od) (w:World) (hr:RdR Od.vs 6 w v l) (hri:aV l) (hn:l.length ≤ 1000) (uD:t.side = 1 ∨ t.side = 2) :
  Calls Tryz.prog 135 #[v,.agg (yv t.id t.side t.ticks t.left t.life t.tag).toArray] w fun e w'=>∃ k:Int,e = .returned (H k)∧NexS l t k∧yn w w':=by
 have HR:=Y hr
 obtain ⟨a,A,rfl,xE,hc⟩:=hr
 have xq:∀ (k:Nat) (c:Od),l[k]? = some c→∃ b off,a = some (J b off)∧b < w.heap.size∧w.rangeAt b (off + k * 6) c.vs:=by
  intro k c hk
  obtain ⟨b,off,G,E,h3⟩:=hc (by intro h; rw [h] at hk; simp at hk)
  exact ⟨b,off,G,E,h3 k c hk⟩
 have HC:=Y xq
 have HRI:=Y hri
 have HOT:=Y (oth_of uD)
 have xA:1 ≤ t.side:=by omega
 have ua:t.side ≤ 2:=by omega
 have xU:Hid (yn w (w.alloc (eF (yv t.id t.side t.ticks t.left t.life t.tag).toArray 49))):=eD _ _
 have HX:Hid (World.rangeAt (w.alloc (eF (yv t.id t.side t.ticks t.left t.life t.tag).toArray 49)) w.heap.size 0 t.vs∧w.heap.size < (w.alloc (eF (yv t.id t.side t.ticks t.left t.life t.tag).toArray 49)).heap.size):=⟨zi w t.vs _,by rw [zh]; omega⟩
 clear xq hc hri uD
 go_enter Tryz.func135,Tryz.ntmps135
 go_wp2_with fail
 generalize (w.alloc (eF (yv t.id t.side t.ticks t.left t.life t.tag).toArray 49)) = W1 at xU HX ⊢
 refine (l03Front_any _ l _ W1 (zn (U HR) (U xU) qt) (U HRI) hn).mono ?_
 rintro e w2 ⟨k,rfl,hf,qc⟩
 have HF:=Y (front_pre (U HRI) hf)
 have xD:=Y ((U xU).trans ((gr_below' qc (fun g hg=>by cases hg) qt).mono (U xU).size))
 have HX2:=Y (zt (U HX).1 qc (U HX).2 (by simp))
 have kY:w.heap.size < w2.heap.size:=yJ (U HX).2 qc.size
 have ar:Hid (∀ (k:Nat) (c:Od),l[k]? = some c→∃ b off,a = some (J b off)∧b < w2.heap.size∧w2.rangeAt b (off + k * 6) c.vs):=fun k c hk=>by
  obtain ⟨b,off,G,E,h3⟩:=U HC k c hk
  exact ⟨b,off,G,by omega,zb h3 (U xD) E⟩
 obtain ⟨t0,t1,t2,t3,t4,t5⟩:=zz (U HX2)
 clear hf qc xA ua
 by_cases h0:t.left = 0
 ·have HN:=Y (nex_stop (l:=l) h0)
  have b0:(t.left == 0) = true:=by simpa using h0
  clear h0
  go_wp2_with fail
  go_quiet (fail)
  go_wp2_with fail
  go_ret
  exact ⟨_,rfl,U HN,cQ (U xD) _⟩
 have b0:(t.left == 0) = false:=by simpa using h0
 rcases U HF with ⟨rfl,jh⟩ | ⟨i,o,rfl,hi,oo,hfo⟩
 ·have HN:=Y (nex_none (l:=l) (t:=t) (by rw [← U HOT]; exact jh))
  clear jh h0
  go_wp2_with fail
  go_quiet (fail)
  go_wp2_with fail
  go_ret
  exact ⟨_,rfl,U HN,cQ (U xD) _⟩
 have HFO:Hid (aU l (othS t.side) = some o):=by rw [← U HOT]; exact hfo
 have HIO:=Y oo
 obtain ⟨b,off,rfl,F,xo⟩:=U ar i o oo
 have HL0:=Y h0
 have HCEL:Hid (∀ w',w2.grownBy w' none→w'.rangeAt w.heap.size 0 t.vs∧w'.rangeAt b (off + i * 6) o.vs):=fun w' h'=>⟨zt (U HX2) h' kY (by simp),zt xo h' F (by simp)⟩
 have hlti:(i:Int) < l.length:=by omega
 have uH:¬ ((i:Int) < 0):=by omega
 have hi0':decide ((i:Int) < 0) = false:=by simp
 clear hfo oo xo h0 HF HOT
 go_wp2_with fail
 refine dn (W:=w2) (by kernel_rfl) (by kernel_rfl) (yR _ _) ?_
 iterate 16 (
  refine bc (v:=?_) ?_ ?_ ?_
  rotate_left
  ·rfl
  ·intro w' ul
   obtain ⟨c0,c1,c2,c3,c4,c5⟩:=zz (U HCEL w' ul).1
   obtain ⟨d0,d1,d2,d3,d4,d5⟩:=zz (U HCEL w' ul).2
   go_simp
   try rfl
  intro hj hK
  go_simp
  refine hK _ ?_
  clear hK hj)
 refine bc (v:=.bool (bI t.side t.ticks o)) ?_ ?_ ?_
 ·rfl
 ·intro w' ul
  go_simp
  refine (l04Crosses_any t.side t.ticks o _).mono ?_
  rintro e w3 ⟨rfl,vd⟩
  exact ⟨rfl,ul.trans (ba vd qt)⟩
 intro hj hK
 go_simp
 refine hK _ ?_
 clear hK hj
 cases hcr:bI t.side t.ticks o
 ·have HN:=Y (nex_no (U HFO) hcr)
  iterate 2 (
   refine bc (v:=?_) ?_ ?_ ?_
   rotate_left
   ·rfl
   ·intro w' ul
    go_simp
    try rfl
   intro hj hK
   go_simp
   refine hK _ ?_
   clear hK hj)
  refine wpQuiet_nil ?_
  intro w3 vd
  have xV:=Y ((U xD).grown vd (U xD).size (fun g hg=>by cases hg))
  clear vd
  go_wp2_with fail
  go_ret
  exact ⟨_,rfl,U HN,U xV⟩
 ·have HN:Hid (NexS l t i):=.inr ⟨i,o,rfl,hi,U HIO,U HFO,hcr,U HL0⟩
  iterate 2 (
   refine bc (v:=?_) ?_ ?_ ?_
   rotate_left
   ·rfl
   ·intro w' ul
    go_simp
    try rfl
   intro hj hK
   go_simp
   refine hK _ ?_
   clear hK hj)
  refine wpQuiet_nil ?_
  intro w3 vd
  have xV:=Y ((U xD).grown vd (U xD).size (fun g hg=>by cases hg))
  clear vd
  go_wp2_with fail
  go_ret
  exact ⟨_,rfl,U HN,U xV⟩
end Go.Proofs.YtbakanofkghmiaaGreat
