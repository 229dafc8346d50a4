/-
  The front of a tree: proved by walking the function.
-/
import Derived.Test.YtbakanofkghmiaaGreatPj09
set_option linter.unusedVariables false
set_option maxHeartbeats 6400000
set_option maxRecDepth 100000
namespace Go.Proofs.YtbakanofkghmiaaGreat
open Go.RowKit
theorem best_s {S:TS}:∀ {t:Tr} {v:Nat},Rep S.nd t v→t ≠ .nil→v ∈ t.hs∧((S.nd v).be = 0→t.hs.head? = some v)∧((S.nd v).be ≠ 0→∃ l,Rep S.nd l (S.nd v).be∧l ≠ .nil∧l.hs.head? = t.hs.head?∧l.hs.length < t.hs.length∧∀ a ∈ l.hs,a ∈ t.hs)
 | .nil,_,_,h=>absurd rfl h
 | .node h l r,v,⟨e,h0,z,K⟩,_=>by
  subst e
  refine ⟨by simp [Tr.hs],fun hb=>?_,fun hb=>⟨l,z,?_,?_,?_,fun a ha=>by simp [Tr.hs,ha]⟩⟩
  ·rw [hb] at z; obtain rfl:=rep_nil z; rfl
  ·rintro rfl; exact hb z
  ·cases l with
   | nil=>exact absurd z hb
   | node a l' r'=>simp [Tr.hs]
  ·simp [Tr.hs]
def FrI_s (S:TS) (hd:Option Nat) (w0:World) (k:Nat) (p:Value) (wr:World):Prop:=∃ (t:Tr) (v:Nat),p = H v∧Rep S.nd t v∧t ≠ .nil∧t.hs.head? = hd∧t.hs.length ≤ k∧(∀ a ∈ t.hs,a < 21)∧w0 = wr
theorem front_s (b:Nat) (sd:Int) (seq:List Od) (w:World) (h:aC 179 false w b sd seq) (hn:seq.length ≤ 20) :
  Calls Tryz.prog 126 #[I b 0] w fun e w'=>e = yk (frOf (quOf false seq))∧yl w w':=by
 obtain ⟨S,t,hT,hi,hq,vp⟩:=h
 have hou:=tree_orders hi hq
 have qw:∀ a ∈ t.hs,a < 21:=fun a ha=>by have:=(hi.range a ha).2; omega
 have HT:=Q hT
 have jF:=hT.root
 have jj:=tm_lt hT
 by_cases pF:S.root = 0
 ·have ht:=hi.rep
  rw [pF] at ht jF
  obtain rfl:=rep_nil ht
  have HF:Hid (frOf (quOf false seq) = .tuple #[zOdv,.bool false]):=by show _ = _; rw [← hou]; rfl
  clear hi hq vp hou hT ht qw
  go_enter Tryz.func126,Tryz.ntmps126
  go_wp2_with fail
  go_returns
  refine ⟨by rw [M HF]; rfl,?_⟩
  go_grown
 ·have xA:t ≠ .nil:=by rintro rfl; exact pF hi.rep
  have HI:=Q hi
  have HQ:=Q hq
  have HOU:=Q hou
  have HH:=Q qw
  have HNE:=Q xA
  have hr0':¬ ((S.root:Int) = 0):=by omega
  clear hi hq vp hou hT qw xA
  go_enter Tryz.func126,Tryz.ntmps126
  go_wp2_with fail
  go_loopg [4] (t.hs.length) (fun k p wr=>FrI_s S t.hs.head? (w.alloc (E (yt 0 0 0 0 0 ⟨#[]⟩).toArray 49)) k p wr)
  case atStart=>exact ⟨t,S.root,rfl,(M HI).rep,M HNE,rfl,Nat.le_refl _,M HH,rfl⟩
  case round =>
   obtain ⟨t1,v,rfl,z,K,h3,h4,h5,rfl⟩:=hrel
   obtain ⟨b1,b2,b3⟩:=best_s z K
   have hv21:=h5 v b1
   have hv21':(v:Int) < 21:=by omega
   have qc:=aS (M HT) (Below.heap_alloc w (E (yt 0 0 0 0 0 ⟨#[]⟩).toArray 49) b jj)
   obtain ⟨-,-,-,-,n4,-,n6,-⟩:=zN (qc.nd v hv21)
   have H3:=Q h3
   have H4:=Q h4
   have H5:=Q h5
   by_cases ji:(S.nd v).be = 0
   ·have ou:=b2 ji
    rw [h3] at ou
    have hvm:v ∈ t.hs:=List.mem_of_head? ou
    have hQ:=(M HQ).q v hvm
    obtain ⟨e,rest,hqs⟩:∃ e rest,qs seq (S.nd v).ticks = e :: rest:=by
     cases kW:qs seq (S.nd v).ticks with
     | nil=>exact absurd kW hQ.ne
     | cons e rest=>exact ⟨e,rest,rfl⟩
    have hch:=hQ.chain
    rw [hqs] at hch
    obtain ⟨he,he0,-⟩:=hch
    have he21:e < 21:=by
     have:=(bI (S.nd v).ticks seq 1 e (by have h:e ∈ qs seq (S.nd v).ticks:=(by rw [hqs]; simp); exact h)).2.1
     omega
    have he21':(e:Int) < 21:=by omega
    have HF:Hid (frOf (quOf false seq) = .tuple #[(S.qo e).od.val,.bool true]):=by
     show _ = _
     rw [← M HOU]
     obtain ⟨tl,htl⟩:∃ tl,t.hs = v :: tl:=by
      cases hh:t.hs with
      | nil=>rw [hh] at ou; simp at ou
      | cons a r=>rw [hh] at ou; simp at ou; rw [ou]; exact ⟨r,rfl⟩
     rw [htl,List.flatMap_cons,hqs]
     rfl
    obtain ⟨q0,q1,q2,q3,q4,q5,-⟩:=dw (qc.qo e he21)
    rw [he] at n6
    rw [ji] at n4
    clear z K h3 h4 h5 b1 b2 b3 qc ou hvm hQ hqs he ji
    go_wp2_with fail
    go_region
    go_wp2_with fail
    go_returns
    refine ⟨by rw [M HF]; rfl,?_⟩
    go_grown
   ·obtain ⟨l,l1,l2,l3,l4,l5⟩:=b3 ji
    have hbe':¬ (((S.nd v).be:Int) = 0):=by omega
    have HL:Hid (Rep S.nd l (S.nd v).be∧l ≠ .nil∧l.hs.head? = t1.hs.head?∧l.hs.length < t1.hs.length∧∀ a ∈ l.hs,a ∈ t1.hs):=⟨l1,l2,l3,l4,l5⟩
    clear z K h3 h4 h5 b1 b2 b3 qc l1 l2 l3 l4 l5 ji
    go_wp2_with fail
    go_roundg (l.hs.length)
    case measure=>have:=M H4; have:=(M HL).2.2.2.1; omega
    case rel=>exact ⟨l,_,rfl,(M HL).1,(M HL).2.1,(M HL).2.2.1.trans (M H3),Nat.le_refl _,fun a ha=>M H5 a ((M HL).2.2.2.2 a ha),rfl⟩
def aV (b:Nat):Value:=.agg #[.func (.func 126) #[I b 0] #[],.func (.func 127) #[I b 0] #[],.func (.func 128) #[I b 0] #[]]
theorem ask_s (b:Nat) (w:World) :
  Calls Tryz.prog 77 #[I b 0] w fun e w'=>e = yk (aV b)∧yl w w':=by
 have hmf:∀ (fn:Fn) (first F:Array Value) (w:World),(Instr.makeFunc fn first F).run Tryz.prog w = .ok (.func fn first F) w:=fun _ _ _ _=>rfl
 go_enter Tryz.func77,Tryz.ntmps77
 go_wp2_with fail
 go_returns
 refine ⟨rfl,?_⟩
 go_grown
def idsR (next:Int):Int→List Od→Bool
 | _,[]=>true
 | last,o :: r=>decide (last < o.id) && decide (o.id < next) && idsR next o.id r
theorem idsRise_any (next:Int) (v:Value) (l:List Od) (w:World) (hr:RdR Od.vs 6 w v l) :
  Calls Tryz.prog 36 #[.agg #[H next,v]] w fun e w'=>e = yk (.bool (idsR next 0 l))∧yl w w':=by
 obtain ⟨a,F,rfl,xD,hc⟩:=hr
 have xn:∀ (k:Nat) (c:Od),l[k]? = some c→∃ b off,a = some (J b off)∧b < w.heap.size∧w.rangeAt b (off + k * 6) c.vs:=by
  intro k c hk
  obtain ⟨b,off,z,K,h3⟩:=hc (by intro h; rw [h] at hk; simp at hk)
  exact ⟨b,off,z,K,h3 k c hk⟩
 have HC:=Q xn
 clear xn hc
 have ua:Hid (yl w (w.alloc (E #[H next,.slice a l.length F] 28))):=eD _ _
 have HR0:Hid ((w.alloc (E #[H next,.slice a l.length F] 28)).cell? (yn w 0) = some (H next)∧w.heap.size < (w.alloc (E #[H next,.slice a l.length F] 28)).heap.size):=⟨zg w [H next,.slice a l.length F] 28 0 _ rfl,by rw [ze]; omega⟩
 go_enter Tryz.func36,Tryz.ntmps36
 go_wp2_with fail
 generalize (w.alloc (E #[H next,.slice a l.length F] 28)) = W1 at ua HR0 ⊢
 have xz:=(M HR0).2
 go_loopw [3,9] (fun lv iv wr=>∃ (k:Nat) (last:Int),lv = H last∧k ≤ l.length∧iv = H k∧Hid (idsR next 0 l = idsR next last (l.drop k))∧yl W1 wr) (fun _ iv _=>l.length - (intOf iv).toNat)
 case atStart=>exact ⟨0,0,rfl,Nat.zero_le _,rfl,by simp [Hid],Below.refl _ _⟩
 case round =>
  obtain ⟨k,last,rfl,hk,rfl,hids,xe⟩:=hrel
  have HB:=Q xe
  clear xe
  by_cases xL:k < l.length
  ·obtain ⟨c,uC⟩:∃ c,l[k]? = some c:=⟨_,yE xL⟩
   have jW:l.drop k = c :: l.drop (k + 1):=by
    obtain ⟨z,rfl⟩:=yD.1 uC
    exact yZ z
   have HI:Hid (idsR next 0 l = (decide (last < c.id) && decide (c.id < next) && idsR next c.id (l.drop (k + 1)))):=by
    have:=M hids
    rw [jW] at this
    exact this
   obtain ⟨b,off,rfl,hb,xk⟩:=M HC k c uC
   obtain ⟨g0,g1,g2,g3,g4,g5⟩:=zx (zb xk ((M ua).trans ((M HB).mono (M ua).size)) hb)
   have kG:=((M HB).cell (p:=(yn w 0)) xz).trans (M HR0).1
   have uO:(k:Int) < l.length:=by omega
   have kf:=(M HB).size
   have hboxW:(wr.alloc (E (yt c.id c.side c.ticks c.left c.life c.tag).toArray 49)).cell? (yn w 0) = some (H next):=(Below.cell ((Below.refl wr.heap.size wr).alloc tg _) (p:=(yn w 0)) (show w.heap.size < wr.heap.size by omega)).trans kG
   clear uC xk hb jW hids
   by_cases z:last < c.id
   ·have pv:decide (c.id ≤ last) = false:=by simpa using z
    by_cases K:c.id < next
    ·have kj:¬ (next ≤ c.id):=by omega
     have HN:Hid (idsR next 0 l = idsR next c.id (l.drop (k + 1))):=by
      have:=M HI
      rw [decide_eq_true z,decide_eq_true K,Bool.true_and,Bool.true_and] at this
      exact this
     go_wp2_with fail
     go_roundw
     case rel=>exact ⟨k + 1,c.id,rfl,by omega,by go_num,M HN,(M HB).alloc kf _⟩
     case measure=>simp [intOf]; omega
    ·have kj:next ≤ c.id:=by omega
     have HN:Hid (idsR next 0 l = false):=by
      have:=M HI
      rw [decide_eq_false K,Bool.and_false,Bool.false_and] at this
      exact this
     go_wp2_with fail
     go_ret
     exact ⟨zl (M HN).symm,(M ua).trans (((M HB).alloc kf _).mono (M ua).size)⟩
   ·have pv:decide (c.id ≤ last) = true:=by simp; omega
    have HN:Hid (idsR next 0 l = false):=by
     have:=M HI
     rw [decide_eq_false z,Bool.false_and,Bool.false_and] at this
     exact this
    go_wp2_with fail
    go_ret
    exact ⟨zl (M HN).symm,(M ua).trans (((M HB).alloc kf _).mono (M ua).size)⟩
  ·go_wp2_with fail
   go_ret
   have h:=M hids
   rw [yX (by omega)] at h
   exact ⟨zl (by rw [h]; rfl),(M ua).trans ((M HB).mono (M ua).size)⟩
theorem eg (next:Int) (v:Value) (l:List Od) (w:World) (hr:RdR Od.vs 6 w v l) (hn:l.length ≤ 20) (hl:∀ o' ∈ l,0 ≤ o'.left∧o'.left ≤ 1000000) :
  Calls Tryz.prog 38 #[.agg #[H next,v],H 1] w fun e w' =>
   ∃ b,e = yk (aU b)∧aC 176 true w' b 1 (zn l 1)∧w.heap.size ≤ b∧yl w w':=by
 have HR:=Q hr
 have HL:=Q hl
 obtain ⟨a,F,rfl,xD,hc⟩:=hr
 have xz:=ze w (E #[H next,.slice a l.length F] 28)
 have r1:=zg (w.alloc (E #[H next,.slice a l.length F] 28)) [.nilFunc,.nilFunc,.nilFunc] 81
 have t1:=cz (n:=3) (heap_alloc_new (w.alloc (E #[H next,.slice a l.length F] 28)) (E #[.nilFunc,.nilFunc,.nilFunc] 81)) (by simp)
 rw [xz] at r1 t1
 have xY:((w.alloc (E #[H next,.slice a l.length F] 28)).alloc (E #[.nilFunc,.nilFunc,.nilFunc] 81)).heap.size = w.heap.size + 1 + 1:=by rw [ze,xz]
 have ua:Hid (yl w ((w.alloc (E #[H next,.slice a l.length F] 28)).alloc (E #[.nilFunc,.nilFunc,.nilFunc] 81))) :=
  (eD _ _).alloc (by rw [xz]; omega) _
 have HX:Hid (_∧_):=⟨r1,t1⟩
 have vK:=Q xY
 clear r1 t1 xz xY hc hl
 go_enter Tryz.func38,Tryz.ntmps38
 go_wp2_with fail
 generalize ((w.alloc (E #[H next,.slice a l.length F] 28)).alloc (E #[.nilFunc,.nilFunc,.nilFunc] 81)) = W2 at ua HX vK ⊢
 refine (plant_b _ l 1 W2 (zh (M HR) (M ua) tg) hn (M HL)).mono ?_
 rintro e w1 ⟨rfl,kL,xR⟩
 have vw:=Q kL
 have xT:=Q xR
 clear kL xR
 go_wp2_with fail
 refine (ask_b W2.heap.size w1).mono ?_
 rintro e w2 ⟨rfl,ue⟩
 have pj:=Q (zt (M vw) (ue.block _ (zJ (M vw))))
 have jV:=(M xT).trans (ue.mono (M xT).size)
 obtain ⟨x1,x2⟩:=M HX
 have y1:=zb x1 jV (by rw [M vK]; omega)
 have y2:=zf x2 jV (by rw [M vK]; omega)
 have xC:=Q (eG (M ua) jV)
 have c0:w2.cell? (J (w.heap.size + 1) 0) = some .nilFunc:=y1 0 _ rfl
 have c1:w2.cell? (J (w.heap.size + 1) 1) = some .nilFunc:=y1 1 _ rfl
 have c2:w2.cell? (J (w.heap.size + 1) 2) = some .nilFunc:=y1 2 _ rfl
 have f0:w2.frozen? (J (w.heap.size + 1) 0) = false:=(y2 0 (by omega)).2
 have f1:w2.frozen? (J (w.heap.size + 1) 1) = false:=(y2 1 (by omega)).2
 have f2:w2.frozen? (J (w.heap.size + 1) 2) = false:=(y2 2 (by omega)).2
 clear ue jV x1 x2 y1 y2
 unfold aU
 generalize hF0:Value.func (.func 122) #[ym W2 0] #[] = F0
 generalize hF1:Value.func (.func 123) #[ym W2 0] #[] = F1
 generalize hF2:Value.func (.func 124) #[ym W2 0] #[] = F2
 have uH:∀ (W:World) (o:Nat) (m:Mode),((store (J (w.heap.size + 1) o) F0 m).run Tryz.prog W = stored Tryz.prog W (J (w.heap.size + 1) o) F0 m)∧((store (J (w.heap.size + 1) o) F1 m).run Tryz.prog W = stored Tryz.prog W (J (w.heap.size + 1) o) F1 m)∧((store (J (w.heap.size + 1) o) F2 m).run Tryz.prog W = stored Tryz.prog W (J (w.heap.size + 1) o) F2 m):=fun W o m=>by
  subst hF0 hF1 hF2
  exact ⟨run_store _ W _ _ m rfl,run_store _ W _ _ m rfl,run_store _ W _ _ m rfl⟩
 have hst0:=fun W o m=>(uH W o m).1
 have hst1:=fun W o m=>(uH W o m).2.1
 have hst2:=fun W o m=>(uH W o m).2.2
 clear uH
 go_wp2_with fail
 have hn01:((J (w.heap.size + 1) 0):Addr) ≠ (J (w.heap.size + 1) 1):=fun e=>by simp at e
 have hn02:((J (w.heap.size + 1) 0):Addr) ≠ (J (w.heap.size + 1) 2):=fun e=>by simp at e
 have hn12:((J (w.heap.size + 1) 1):Addr) ≠ (J (w.heap.size + 1) 2):=fun e=>by simp at e
 have d2:(((w2.setCell (J (w.heap.size + 1) 0) F0).setCell (J (w.heap.size + 1) 1) F1).setCell (J (w.heap.size + 1) 2) F2).cell? (J (w.heap.size + 1) 2) = some F2 :=
  yJ _ _ _ ((yI _ _ _ _ hn12).trans ((yI _ _ _ _ hn02).trans c2))
 have d1:(((w2.setCell (J (w.heap.size + 1) 0) F0).setCell (J (w.heap.size + 1) 1) F1).setCell (J (w.heap.size + 1) 2) F2).cell? (J (w.heap.size + 1) 1) = some F1 :=
  (yI _ _ _ _ hn12.symm).trans (yJ _ _ _ ((yI _ _ _ _ hn01).trans c1))
 have d0:(((w2.setCell (J (w.heap.size + 1) 0) F0).setCell (J (w.heap.size + 1) 1) F1).setCell (J (w.heap.size + 1) 2) F2).cell? (J (w.heap.size + 1) 0) = some F0 :=
  (yI _ _ _ _ hn02.symm).trans ((yI _ _ _ _ hn01.symm).trans (yJ _ _ _ c0))
 have xA:W2.heap.size ≠ w.heap.size + 1:=by rw [M vK]; omega
 have HT5:=Q (zt (M pj) (w':=((w2.setCell (J (w.heap.size + 1) 0) F0).setCell (J (w.heap.size + 1) 1) F1).setCell (J (w.heap.size + 1) 2) F2) ((yP _ _ _ _ xA).trans ((yP _ _ _ _ xA).trans (yP _ _ _ _ xA))))
 have vA:=Q ((((M xC).setCell (p:=(J (w.heap.size + 1) 0)) (by simp) F0).setCell (p:=(J (w.heap.size + 1) 1)) (by simp) F1).setCell (p:=(J (w.heap.size + 1) 2)) (by simp) F2)
 generalize ((w2.setCell (J (w.heap.size + 1) 0) F0).setCell (J (w.heap.size + 1) 1) F1).setCell (J (w.heap.size + 1) 2) F2 = W5 at *
 try simp only [Exit.inBlock,Exit.then]
 refine bodyPost_ret (by simp [results,Tryz.results38,go_sem,d0,d1,d2]; try rfl) rfl ?_
 refine ⟨W2.heap.size,?_,M HT5,by rw [M vK]; omega,M vA⟩
 subst hF0 hF1 hF2
 rfl
theorem dY (next:Int) (sd:Int) (uu:¬ sd = 1) (v:Value) (l:List Od) (w:World) (hr:RdR Od.vs 6 w v l) (hn:l.length ≤ 20) (hl:∀ o' ∈ l,0 ≤ o'.left∧o'.left ≤ 1000000) :
  Calls Tryz.prog 38 #[.agg #[H next,v],H sd] w fun e w' =>
   ∃ b,e = yk (aV b)∧aC 179 false w' b sd (zn l sd)∧w.heap.size ≤ b∧yl w w':=by
 have HR:=Q hr
 have HL:=Q hl
 obtain ⟨a,F,rfl,xD,hc⟩:=hr
 have xz:=ze w (E #[H next,.slice a l.length F] 28)
 have r1:=zg (w.alloc (E #[H next,.slice a l.length F] 28)) [.nilFunc,.nilFunc,.nilFunc] 81
 have t1:=cz (n:=3) (heap_alloc_new (w.alloc (E #[H next,.slice a l.length F] 28)) (E #[.nilFunc,.nilFunc,.nilFunc] 81)) (by simp)
 rw [xz] at r1 t1
 have xY:((w.alloc (E #[H next,.slice a l.length F] 28)).alloc (E #[.nilFunc,.nilFunc,.nilFunc] 81)).heap.size = w.heap.size + 1 + 1:=by rw [ze,xz]
 have ua:Hid (yl w ((w.alloc (E #[H next,.slice a l.length F] 28)).alloc (E #[.nilFunc,.nilFunc,.nilFunc] 81))) :=
  (eD _ _).alloc (by rw [xz]; omega) _
 have HX:Hid (_∧_):=⟨r1,t1⟩
 have vK:=Q xY
 clear r1 t1 xz xY hc hl
 go_enter Tryz.func38,Tryz.ntmps38
 go_wp2_with fail
 generalize ((w.alloc (E #[H next,.slice a l.length F] 28)).alloc (E #[.nilFunc,.nilFunc,.nilFunc] 81)) = W2 at ua HX vK ⊢
 refine (plant_s _ l sd W2 (zh (M HR) (M ua) tg) hn (M HL)).mono ?_
 rintro e w1 ⟨rfl,kL,xR⟩
 have vw:=Q kL
 have xT:=Q xR
 clear kL xR
 go_wp2_with fail
 refine (ask_s W2.heap.size w1).mono ?_
 rintro e w2 ⟨rfl,ue⟩
 have pj:=Q (zt (M vw) (ue.block _ (zJ (M vw))))
 have jV:=(M xT).trans (ue.mono (M xT).size)
 obtain ⟨x1,x2⟩:=M HX
 have y1:=zb x1 jV (by rw [M vK]; omega)
 have y2:=zf x2 jV (by rw [M vK]; omega)
 have xC:=Q (eG (M ua) jV)
 have c0:w2.cell? (J (w.heap.size + 1) 0) = some .nilFunc:=y1 0 _ rfl
 have c1:w2.cell? (J (w.heap.size + 1) 1) = some .nilFunc:=y1 1 _ rfl
 have c2:w2.cell? (J (w.heap.size + 1) 2) = some .nilFunc:=y1 2 _ rfl
 have f0:w2.frozen? (J (w.heap.size + 1) 0) = false:=(y2 0 (by omega)).2
 have f1:w2.frozen? (J (w.heap.size + 1) 1) = false:=(y2 1 (by omega)).2
 have f2:w2.frozen? (J (w.heap.size + 1) 2) = false:=(y2 2 (by omega)).2
 clear ue jV x1 x2 y1 y2
 unfold aV
 generalize hF0:Value.func (.func 126) #[ym W2 0] #[] = F0
 generalize hF1:Value.func (.func 127) #[ym W2 0] #[] = F1
 generalize hF2:Value.func (.func 128) #[ym W2 0] #[] = F2
 have uH:∀ (W:World) (o:Nat) (m:Mode),((store (J (w.heap.size + 1) o) F0 m).run Tryz.prog W = stored Tryz.prog W (J (w.heap.size + 1) o) F0 m)∧((store (J (w.heap.size + 1) o) F1 m).run Tryz.prog W = stored Tryz.prog W (J (w.heap.size + 1) o) F1 m)∧((store (J (w.heap.size + 1) o) F2 m).run Tryz.prog W = stored Tryz.prog W (J (w.heap.size + 1) o) F2 m):=fun W o m=>by
  subst hF0 hF1 hF2
  exact ⟨run_store _ W _ _ m rfl,run_store _ W _ _ m rfl,run_store _ W _ _ m rfl⟩
 have hst0:=fun W o m=>(uH W o m).1
 have hst1:=fun W o m=>(uH W o m).2.1
 have hst2:=fun W o m=>(uH W o m).2.2
 clear uH
 go_wp2_with fail
 have hn01:((J (w.heap.size + 1) 0):Addr) ≠ (J (w.heap.size + 1) 1):=fun e=>by simp at e
 have hn02:((J (w.heap.size + 1) 0):Addr) ≠ (J (w.heap.size + 1) 2):=fun e=>by simp at e
 have hn12:((J (w.heap.size + 1) 1):Addr) ≠ (J (w.heap.size + 1) 2):=fun e=>by simp at e
 have d2:(((w2.setCell (J (w.heap.size + 1) 0) F0).setCell (J (w.heap.size + 1) 1) F1).setCell (J (w.heap.size + 1) 2) F2).cell? (J (w.heap.size + 1) 2) = some F2 :=
  yJ _ _ _ ((yI _ _ _ _ hn12).trans ((yI _ _ _ _ hn02).trans c2))
 have d1:(((w2.setCell (J (w.heap.size + 1) 0) F0).setCell (J (w.heap.size + 1) 1) F1).setCell (J (w.heap.size + 1) 2) F2).cell? (J (w.heap.size + 1) 1) = some F1 :=
  (yI _ _ _ _ hn12.symm).trans (yJ _ _ _ ((yI _ _ _ _ hn01).trans c1))
 have d0:(((w2.setCell (J (w.heap.size + 1) 0) F0).setCell (J (w.heap.size + 1) 1) F1).setCell (J (w.heap.size + 1) 2) F2).cell? (J (w.heap.size + 1) 0) = some F0 :=
  (yI _ _ _ _ hn02.symm).trans ((yI _ _ _ _ hn01.symm).trans (yJ _ _ _ c0))
 have xA:W2.heap.size ≠ w.heap.size + 1:=by rw [M vK]; omega
 have HT5:=Q (zt (M pj) (w':=((w2.setCell (J (w.heap.size + 1) 0) F0).setCell (J (w.heap.size + 1) 1) F1).setCell (J (w.heap.size + 1) 2) F2) ((yP _ _ _ _ xA).trans ((yP _ _ _ _ xA).trans (yP _ _ _ _ xA))))
 have vA:=Q ((((M xC).setCell (p:=(J (w.heap.size + 1) 0)) (by simp) F0).setCell (p:=(J (w.heap.size + 1) 1)) (by simp) F1).setCell (p:=(J (w.heap.size + 1) 2)) (by simp) F2)
 generalize ((w2.setCell (J (w.heap.size + 1) 0) F0).setCell (J (w.heap.size + 1) 1) F1).setCell (J (w.heap.size + 1) 2) F2 = W5 at *
 try simp only [Exit.inBlock,Exit.then]
 refine bodyPost_ret (by simp [results,Tryz.results38,go_sem,d0,d1,d2]; try rfl) rfl ?_
 refine ⟨W2.heap.size,?_,M HT5,by rw [M vK]; omega,M vA⟩
 subst hF0 hF1 hF2
 rfl
def hdO (q:List Od):Od:=(q.head?).getD zOd
def hdF (q:List Od):Bool:=(q.head?).isSome
theorem frOf_eq (q:List Od):frOf q = .tuple #[.agg (yt ((hdO q).id) ((hdO q).side) ((hdO q).ticks) ((hdO q).left) ((hdO q).life) ((hdO q).tag)).toArray,.bool (hdF q)]:=by
 unfold frOf hdO hdF
 cases q.head? <;> rfl
def meetB (q1 q2:List Od):Bool:=hdF q1 && hdF q2 && decide ((hdO q2).ticks ≤ (hdO q1).ticks)
theorem sidesMeet_any (b1 b2:Nat) (sd1 sd2:Int) (s1 s2:List Od) (w:World) (z:aC 176 true w b1 sd1 s1) (K:aC 179 false w b2 sd2 s2) (n1:s1.length ≤ 20) (n2:s2.length ≤ 20) :
  Calls Tryz.prog 40 #[aU b1,aV b2] w fun e w'=>e = yk (.bool (meetB (quOf true s1) (quOf false s2)))∧yl w w':=by
 have H1:=Q z
 have H2:=Q K
 have xR:=zJ z
 have ue:=zJ K
 clear z K
 unfold aU aV
 have xz:=ze w (E #[.func (.func 122) #[I b1 0] #[],.func (.func 123) #[I b1 0] #[],.func (.func 124) #[I b1 0] #[]] 81)
 have r1:=zg (w.alloc (E #[.func (.func 122) #[I b1 0] #[],.func (.func 123) #[I b1 0] #[],.func (.func 124) #[I b1 0] #[]] 81)) [.func (.func 126) #[I b2 0] #[],.func (.func 127) #[I b2 0] #[],.func (.func 128) #[I b2 0] #[]] 81
 have xY:((w.alloc (E #[.func (.func 122) #[I b1 0] #[],.func (.func 123) #[I b1 0] #[],.func (.func 124) #[I b1 0] #[]] 81)).alloc (E #[.func (.func 126) #[I b2 0] #[],.func (.func 127) #[I b2 0] #[],.func (.func 128) #[I b2 0] #[]] 81)).heap.size = w.heap.size + 1 + 1:=by rw [ze,xz]
 have ua:Hid (yl w ((w.alloc (E #[.func (.func 122) #[I b1 0] #[],.func (.func 123) #[I b1 0] #[],.func (.func 124) #[I b1 0] #[]] 81)).alloc (E #[.func (.func 126) #[I b2 0] #[],.func (.func 127) #[I b2 0] #[],.func (.func 128) #[I b2 0] #[]] 81))):=(eD _ _).alloc (by rw [xz]; omega) _
 rw [xz] at r1
 have HX:=Q (r1 0 _ rfl)
 have vK:=Q xY
 clear r1 xz xY
 go_enter Tryz.func40,Tryz.ntmps40
 go_wp2_with fail
 generalize ((w.alloc (E #[.func (.func 122) #[I b1 0] #[],.func (.func 123) #[I b1 0] #[],.func (.func 124) #[I b1 0] #[]] 81)).alloc (E #[.func (.func 126) #[I b2 0] #[],.func (.func 127) #[I b2 0] #[],.func (.func 128) #[I b2 0] #[]] 81)) = W2 at ua HX vK ⊢
 refine (front_b b1 sd1 s1 W2 (zt (M H1) ((M ua).block _ xR)) n1).mono ?_
 rintro e w1 ⟨rfl,uf⟩
 rw [frOf_eq]
 have xM:=Q uf
 have c0:=(uf.cell (p:=(J (w.heap.size + 1) 0)) (by rw [M vK]; simp)).trans (M HX)
 have hsz1:w.heap.size + 2 ≤ w1.heap.size:=by have:=uf.size; rw [M vK] at this; omega
 generalize qy:hdO (quOf true s1) = x
 generalize hf1:hdF (quOf true s1) = f1
 have kC:Hid (hdO (quOf true s1) = x∧hdF (quOf true s1) = f1):=⟨qy,hf1⟩
 clear uf qy hf1
 have c0':(w1.alloc (E (yt x.id x.side x.ticks x.left x.life x.tag).toArray 49)).cell? (J (w.heap.size + 1) 0) = _:=(Below.cell ((Below.refl w1.heap.size w1).alloc tg _) (p:=(J (w.heap.size + 1) 0)) (show w.heap.size + 1 < w1.heap.size by omega)).trans c0
 have jg:Hid (World.rangeAt (w1.alloc (E (yt x.id x.side x.ticks x.left x.life x.tag).toArray 49)) w1.heap.size 0 x.vs):=zg w1 x.vs 49
 have xS:Hid (yl W2 (w1.alloc (E (yt x.id x.side x.ticks x.left x.life x.tag).toArray 49))):=(M xM).alloc (M xM).size _
 have HS4:Hid ((w1.alloc (E (yt x.id x.side x.ticks x.left x.life x.tag).toArray 49)).heap.size = w1.heap.size + 1):=ze _ _
 go_wp2_with fail
 generalize (w1.alloc (E (yt x.id x.side x.ticks x.left x.life x.tag).toArray 49)) = W4 at c0' jg xS HS4 ⊢
 have HB04:=Q ((M ua).trans ((M xS).mono (M ua).size))
 refine (front_s b2 sd2 s2 W4 (zt (M H2) ((M HB04).block _ ue)) n2).mono ?_
 rintro e w5 ⟨rfl,uN⟩
 rw [frOf_eq]
 have vA:=Q (eG (M HB04) uN)
 obtain ⟨-,-,t2,-⟩:=zx (zb (M jg) uN (by rw [M HS4]; omega))
 have hsz5:w1.heap.size < w5.heap.size:=by have:=uN.size; rw [M HS4] at this; omega
 generalize hq2:hdO (quOf false s2) = y
 generalize hf2:hdF (quOf false s2) = f2
 have HQ2:Hid (hdO (quOf false s2) = y∧hdF (quOf false s2) = f2):=⟨hq2,hf2⟩
 clear uN hq2 hf2
 have t2':(w5.alloc (E (yt y.id y.side y.ticks y.left y.life y.tag).toArray 49)).cell? (yn w1 (0 + 2)) = _:=(Below.cell ((Below.refl w5.heap.size w5).alloc tg _) (p:=(yn w1 (0 + 2))) hsz5).trans t2
 have vI:Hid (yl w (w5.alloc (E (yt y.id y.side y.ticks y.left y.life y.tag).toArray 49))):=(M vA).alloc (M vA).size _
 have HM:Hid (meetB (quOf true s1) (quOf false s2) = (f1 && f2 && decide (y.ticks ≤ x.ticks))):=by
  show _ = _
  rw [meetB,(M kC).1,(M kC).2,(M HQ2).1,(M HQ2).2]
 cases f1 <;> cases f2
 ·go_wp2_with fail
  go_ret
  exact ⟨zl (M HM).symm,M vI⟩
 ·go_wp2_with fail
  go_ret
  exact ⟨zl (M HM).symm,M vI⟩
 ·go_wp2_with fail
  go_ret
  exact ⟨zl (M HM).symm,M vI⟩
 ·go_wp2_with fail
  go_ret
  exact ⟨zl (M HM).symm,M vI⟩
end Go.Proofs.YtbakanofkghmiaaGreat
