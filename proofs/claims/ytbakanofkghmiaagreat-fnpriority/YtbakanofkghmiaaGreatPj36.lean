/-
  The front of a book, by the program and by the model: proved by walking both functions. (what walks the functions of the model or of the laws)
-/
import Derived.Test.YtbakanofkghmiaaGreatPj35
set_option linter.unusedVariables false
set_option maxHeartbeats 6400000
set_option maxRecDepth 100000
namespace Go.Proofs.YtbakanofkghmiaaGreat
open Go.RowKit
theorem implFront_any (next:Int) (v:Value) (l:List Od) (sd:Int) (w:World) (hr:RdR Od.vs 6 w v l) (hg:∀ c ∈ l,c.tag.size ≤ maxLen) :
  Calls Tryz.prog 18 #[.agg #[H next,v],H sd] w fun e w'=>e = yk (frRes next l sd)∧yl w w':=by
 have HR:=Q hr
 have HG:=Q hg
 obtain ⟨a,F,rfl,xD,hc⟩:=hr
 have xn:∀ (k:Nat) (c:Od),l[k]? = some c→∃ b off,a = some (J b off)∧b < w.heap.size∧w.rangeAt b (off + k * 6) c.vs:=by
  intro k c hk
  obtain ⟨b,off,z,K,h3⟩:=hc (by intro h; rw [h] at hk; simp at hk)
  exact ⟨b,off,z,K,h3 k c hk⟩
 have HC:=Q xn
 clear xn hc hg
 have xz:=ze w (E #[H next,.slice a l.length F] 28)
 have xY:((w.alloc (E #[H next,.slice a l.length F] 28)).alloc (E (yt 0 0 0 0 0 ⟨#[]⟩).toArray 49)).heap.size = w.heap.size + 1 + 1:=by rw [ze,xz]
 have b1:=zb (zg w [H next,.slice a l.length F] 28) ((Below.refl (w.alloc (E #[H next,.slice a l.length F] 28)).heap.size _).alloc tg (E (yt 0 0 0 0 0 ⟨#[]⟩).toArray 49)) (by rw [ze]; omega)
 have t1:=cz (n:=6) (heap_alloc_new (w.alloc (E #[H next,.slice a l.length F] 28)) (E (yt 0 0 0 0 0 ⟨#[]⟩).toArray 49)) (by simp)
 rw [xz] at t1
 have ua:Hid (yl w ((w.alloc (E #[H next,.slice a l.length F] 28)).alloc (E (yt 0 0 0 0 0 ⟨#[]⟩).toArray 49))):=(eD _ _).alloc (by rw [xz]; omega) _
 have HX:Hid (World.rangeAt ((w.alloc (E #[H next,.slice a l.length F] 28)).alloc (E (yt 0 0 0 0 0 ⟨#[]⟩).toArray 49)) w.heap.size 0 [H next,.slice a l.length F]∧World.there ((w.alloc (E #[H next,.slice a l.length F] 28)).alloc (E (yt 0 0 0 0 0 ⟨#[]⟩).toArray 49)) (w.heap.size + 1) 0 6):=⟨b1,t1⟩
 have vK:=Q xY
 clear xz xY b1 t1
 go_enter Tryz.func18,Tryz.ntmps18
 go_wp2_with fail
 generalize ((w.alloc (E #[H next,.slice a l.length F] 28)).alloc (E (yt 0 0 0 0 0 ⟨#[]⟩).toArray 49)) = W2 at ua HX vK ⊢
 refine (eA next _ l W2 (zh (M HR) (M ua) tg) (M HG)).mono ?_
 rw [okI_eq]
 rintro e w3 ⟨rfl,uf⟩
 have xM:=Q (eG (M ua) uf)
 have HTH3:=Q (zf (M HX).2 uf (by rw [M vK]; omega))
 have c0:w3.cell? (yn w 0) = some (H next):=zb (M HX).1 uf (by rw [M vK]; omega) 0 _ rfl
 have c1:w3.cell? (yn w 1) = some (.slice a l.length F):=zb (M HX).1 uf (by rw [M vK]; omega) 1 _ rfl
 have hsz3:w.heap.size + 2 ≤ w3.heap.size:=by have:=uf.size; rw [M vK] at this; omega
 clear uf
 cases xV:okS next l
 ·have HF:Hid (frRes next l sd = .tuple #[zOdv,H 1]):=by show _ = _; rw [frRes,xV]; rfl
  clear xV
  obtain ⟨⟨x0,y0,z0⟩,⟨x1,y1,z1⟩,⟨x2,y2,z2⟩,⟨x3,y3,z3⟩,⟨x4,y4,z4⟩,x5,y5,z5⟩:=there6 (M HTH3)
  have r6:World.rangeAt ((((((w3.setCell (J (w.heap.size + 1) 0) (H 0)).setCell (J (w.heap.size + 1) 1) (H 0)).setCell (J (w.heap.size + 1) 2) (H 0)).setCell (J (w.heap.size + 1) 3) (H 0)).setCell (J (w.heap.size + 1) 4) (H 0)).setCell (J (w.heap.size + 1) 5) (yi ⟨#[]⟩)) (w.heap.size + 1) 0 (yt 0 0 0 0 0 ⟨#[]⟩):=dQ (M HTH3)
  have vI:Hid (yl w ((((((w3.setCell (J (w.heap.size + 1) 0) (H 0)).setCell (J (w.heap.size + 1) 1) (H 0)).setCell (J (w.heap.size + 1) 2) (H 0)).setCell (J (w.heap.size + 1) 3) (H 0)).setCell (J (w.heap.size + 1) 4) (H 0)).setCell (J (w.heap.size + 1) 5) (yi ⟨#[]⟩))):=dP (M xM) (by omega)
  go_wp2_with fail
  generalize ((((((w3.setCell (J (w.heap.size + 1) 0) (H 0)).setCell (J (w.heap.size + 1) 1) (H 0)).setCell (J (w.heap.size + 1) 2) (H 0)).setCell (J (w.heap.size + 1) 3) (H 0)).setCell (J (w.heap.size + 1) 4) (H 0)).setCell (J (w.heap.size + 1) 5) (yi ⟨#[]⟩)) = W6 at r6 vI ⊢
  obtain ⟨d0,d1,d2,d3,d4,d5⟩:=yz r6
  try simp only [Exit.inBlock,Exit.then]
  refine bodyPost_ret (by simp [results,Tryz.results18,go_sem,d0,d1,d2,d3,d4,d5]; try rfl) rfl ?_
  exact ⟨by rw [M HF]; rfl,M vI⟩
 obtain ⟨hn,hri,aw⟩:=okS_left xV
 have pT:=Q xV
 have HRI:=Q hri
 have HLB:=Q aw
 have oI:=Q (zh (M HR) (M xM) tg)
 clear xV hri aw
 have HQ:Hid (∀ (fv:Value) (w5:World),True):=fun _ _=>trivial
 have HSIDE:Hid (∃ s:Bool,s = decide (sd = 1)):=⟨_,rfl⟩
 generalize hq:quOf (decide (sd = 1)) (zn l sd) = q
 have HQ2:=Q hq
 clear hq HQ HSIDE
 by_cases xz:sd = 1
 ·subst xz
  go_wp2_with fail
  refine (eg next _ l w3 (M oI) hn (M HLB)).mono ?_
  rintro e w4 ⟨b,rfl,ht,qI,xy⟩
  have HT4:=Q ht
  have xS:=Q (eG (M xM) xy)
  have HTH4:=Q (zf (M HTH3) xy (by omega))
  have hsz4:w.heap.size + 2 ≤ w4.heap.size:=yK hsz3 xy.size
  have nq:(zn l 1).length ≤ 20:=yK (List.length_filter_le _ _) hn
  clear ht qI xy c0 c1
  unfold aU
  have hfl:=field0_b b w4
  go_wp2_with fail
  refine (front_b b 1 (zn l 1) w4 (M HT4) nq).mono ?_
  rintro e w5 ⟨rfl,uN⟩
  have kW:quOf true (zn l 1) = q:=by rw [← M HQ2]; simp
  rw [kW,frOf_eq]
  have HQQ:Hid (quOf (decide ((1:Int) = 1)) (zn l 1) = q):=kW
  have vA:=Q (eG (M xS) uN)
  have HTH5:=Q (zf (M HTH4) uN (by omega))
  have hsz5:w.heap.size + 2 ≤ w5.heap.size:=yK hsz4 uN.size
  generalize hx:hdO q = x
  generalize hf:hdF q = f1
  have HXF:Hid (hdO q = x∧hdF q = f1):=⟨hx,hf⟩
  clear uN hx hf kW
  have HW6:Hid (World.there (w5.alloc (E (yt x.id x.side x.ticks x.left x.life x.tag).toArray 49)) (w.heap.size + 1) 0 6∧yl w (w5.alloc (E (yt x.id x.side x.ticks x.left x.life x.tag).toArray 49))∧World.rangeAt (w5.alloc (E (yt x.id x.side x.ticks x.left x.life x.tag).toArray 49)) w5.heap.size 0 x.vs) :=
   ⟨zf (M HTH5) ((Below.refl w5.heap.size w5).alloc tg _) (by omega),(M vA).alloc (M vA).size _,zg w5 x.vs _⟩
  cases f1
  ·have HF:Hid (frRes next l 1 = .tuple #[zOdv,H 6]):=by
    show _ = _
    rw [frRes,if_pos (M pT),M HQQ]
    have:=(M HXF).2
    unfold hdF at this
    cases hh:q.head? with
    | none=>rfl
    | some o=>rw [hh] at this; cases this
   obtain ⟨⟨x0,y0,z0⟩,⟨x1,y1,z1⟩,⟨x2,y2,z2⟩,⟨x3,y3,z3⟩,⟨x4,y4,z4⟩,x5,y5,z5⟩:=there6 (M HW6).1
   have r6:World.rangeAt (((((((w5.alloc (E (yt x.id x.side x.ticks x.left x.life x.tag).toArray 49)).setCell (J (w.heap.size + 1) 0) (H 0)).setCell (J (w.heap.size + 1) 1) (H 0)).setCell (J (w.heap.size + 1) 2) (H 0)).setCell (J (w.heap.size + 1) 3) (H 0)).setCell (J (w.heap.size + 1) 4) (H 0)).setCell (J (w.heap.size + 1) 5) (yi ⟨#[]⟩)) (w.heap.size + 1) 0 (yt 0 0 0 0 0 ⟨#[]⟩):=dQ (M HW6).1
   have vI:Hid (yl w (((((((w5.alloc (E (yt x.id x.side x.ticks x.left x.life x.tag).toArray 49)).setCell (J (w.heap.size + 1) 0) (H 0)).setCell (J (w.heap.size + 1) 1) (H 0)).setCell (J (w.heap.size + 1) 2) (H 0)).setCell (J (w.heap.size + 1) 3) (H 0)).setCell (J (w.heap.size + 1) 4) (H 0)).setCell (J (w.heap.size + 1) 5) (yi ⟨#[]⟩))):=dP (M HW6).2.1 (by omega)
   have vf:=Q r6
   clear r6
   go_wp2_with fail
   generalize (((((((w5.alloc (E (yt x.id x.side x.ticks x.left x.life x.tag).toArray 49)).setCell (J (w.heap.size + 1) 0) (H 0)).setCell (J (w.heap.size + 1) 1) (H 0)).setCell (J (w.heap.size + 1) 2) (H 0)).setCell (J (w.heap.size + 1) 3) (H 0)).setCell (J (w.heap.size + 1) 4) (H 0)).setCell (J (w.heap.size + 1) 5) (yi ⟨#[]⟩)) = W6 at vf vI ⊢
   obtain ⟨d0,d1,d2,d3,d4,d5⟩:=yz (M vf)
   try simp only [Exit.inBlock,Exit.then]
   refine bodyPost_ret (by simp [results,Tryz.results18,go_sem,d0,d1,d2,d3,d4,d5]; try rfl) rfl ?_
   exact ⟨by rw [M HF]; rfl,M vI⟩
  ·have HF:Hid (frRes next l 1 = .tuple #[x.val,H 0]):=by
    show _ = _
    rw [frRes,if_pos (M pT),M HQQ]
    have z:=(M HXF).1
    have K:=(M HXF).2
    unfold hdF at K
    unfold hdO at z
    cases hh:q.head? with
    | none=>rw [hh] at K; cases K
    | some o=>rw [hh] at z; simp at z; rw [z]
   obtain ⟨⟨x0,y0,z0⟩,⟨x1,y1,z1⟩,⟨x2,y2,z2⟩,⟨x3,y3,z3⟩,⟨x4,y4,z4⟩,x5,y5,z5⟩:=there6 (M HW6).1
   have r6:World.rangeAt (((((((w5.alloc (E (yt x.id x.side x.ticks x.left x.life x.tag).toArray 49)).setCell (J (w.heap.size + 1) 0) (H x.id)).setCell (J (w.heap.size + 1) 1) (H x.side)).setCell (J (w.heap.size + 1) 2) (H x.ticks)).setCell (J (w.heap.size + 1) 3) (H x.left)).setCell (J (w.heap.size + 1) 4) (H x.life)).setCell (J (w.heap.size + 1) 5) (yi x.tag)) (w.heap.size + 1) 0 (yt x.id x.side x.ticks x.left x.life x.tag):=dQ (M HW6).1
   have vI:Hid (yl w (((((((w5.alloc (E (yt x.id x.side x.ticks x.left x.life x.tag).toArray 49)).setCell (J (w.heap.size + 1) 0) (H x.id)).setCell (J (w.heap.size + 1) 1) (H x.side)).setCell (J (w.heap.size + 1) 2) (H x.ticks)).setCell (J (w.heap.size + 1) 3) (H x.left)).setCell (J (w.heap.size + 1) 4) (H x.life)).setCell (J (w.heap.size + 1) 5) (yi x.tag))):=dP (M HW6).2.1 (by omega)
   have vf:=Q r6
   clear r6
   go_wp2_with fail
   generalize (((((((w5.alloc (E (yt x.id x.side x.ticks x.left x.life x.tag).toArray 49)).setCell (J (w.heap.size + 1) 0) (H x.id)).setCell (J (w.heap.size + 1) 1) (H x.side)).setCell (J (w.heap.size + 1) 2) (H x.ticks)).setCell (J (w.heap.size + 1) 3) (H x.left)).setCell (J (w.heap.size + 1) 4) (H x.life)).setCell (J (w.heap.size + 1) 5) (yi x.tag)) = W6 at vf vI ⊢
   obtain ⟨d0,d1,d2,d3,d4,d5⟩:=yz (M vf)
   try simp only [Exit.inBlock,Exit.then]
   refine bodyPost_ret (by simp [results,Tryz.results18,go_sem,d0,d1,d2,d3,d4,d5]; try rfl) rfl ?_
   exact ⟨by rw [M HF]; rfl,M vI⟩
 ·go_wp2_with fail
  refine (dY next sd xz _ l w3 (M oI) hn (M HLB)).mono ?_
  rintro e w4 ⟨b,rfl,ht,qI,xy⟩
  have HT4:=Q ht
  have xS:=Q (eG (M xM) xy)
  have HTH4:=Q (zf (M HTH3) xy (by omega))
  have hsz4:w.heap.size + 2 ≤ w4.heap.size:=yK hsz3 xy.size
  have nq:(zn l sd).length ≤ 20:=yK (List.length_filter_le _ _) hn
  clear ht qI xy c0 c1
  unfold aV
  have hfl:=field0_s b w4
  go_wp2_with fail
  refine (front_s b sd (zn l sd) w4 (M HT4) nq).mono ?_
  rintro e w5 ⟨rfl,uN⟩
  have kW:quOf false (zn l sd) = q:=by rw [← M HQ2]; simp [xz]
  rw [kW,frOf_eq]
  have HQQ:Hid (quOf (decide (sd = 1)) (zn l sd) = q):=M HQ2
  have vA:=Q (eG (M xS) uN)
  have HTH5:=Q (zf (M HTH4) uN (by omega))
  have hsz5:w.heap.size + 2 ≤ w5.heap.size:=yK hsz4 uN.size
  generalize hx:hdO q = x
  generalize hf:hdF q = f1
  have HXF:Hid (hdO q = x∧hdF q = f1):=⟨hx,hf⟩
  clear uN hx hf kW
  have HW6:Hid (World.there (w5.alloc (E (yt x.id x.side x.ticks x.left x.life x.tag).toArray 49)) (w.heap.size + 1) 0 6∧yl w (w5.alloc (E (yt x.id x.side x.ticks x.left x.life x.tag).toArray 49))∧World.rangeAt (w5.alloc (E (yt x.id x.side x.ticks x.left x.life x.tag).toArray 49)) w5.heap.size 0 x.vs) :=
   ⟨zf (M HTH5) ((Below.refl w5.heap.size w5).alloc tg _) (by omega),(M vA).alloc (M vA).size _,zg w5 x.vs _⟩
  cases f1
  ·have HF:Hid (frRes next l sd = .tuple #[zOdv,H 6]):=by
    show _ = _
    rw [frRes,if_pos (M pT),M HQQ]
    have:=(M HXF).2
    unfold hdF at this
    cases hh:q.head? with
    | none=>rfl
    | some o=>rw [hh] at this; cases this
   obtain ⟨⟨x0,y0,z0⟩,⟨x1,y1,z1⟩,⟨x2,y2,z2⟩,⟨x3,y3,z3⟩,⟨x4,y4,z4⟩,x5,y5,z5⟩:=there6 (M HW6).1
   have r6:World.rangeAt (((((((w5.alloc (E (yt x.id x.side x.ticks x.left x.life x.tag).toArray 49)).setCell (J (w.heap.size + 1) 0) (H 0)).setCell (J (w.heap.size + 1) 1) (H 0)).setCell (J (w.heap.size + 1) 2) (H 0)).setCell (J (w.heap.size + 1) 3) (H 0)).setCell (J (w.heap.size + 1) 4) (H 0)).setCell (J (w.heap.size + 1) 5) (yi ⟨#[]⟩)) (w.heap.size + 1) 0 (yt 0 0 0 0 0 ⟨#[]⟩):=dQ (M HW6).1
   have vI:Hid (yl w (((((((w5.alloc (E (yt x.id x.side x.ticks x.left x.life x.tag).toArray 49)).setCell (J (w.heap.size + 1) 0) (H 0)).setCell (J (w.heap.size + 1) 1) (H 0)).setCell (J (w.heap.size + 1) 2) (H 0)).setCell (J (w.heap.size + 1) 3) (H 0)).setCell (J (w.heap.size + 1) 4) (H 0)).setCell (J (w.heap.size + 1) 5) (yi ⟨#[]⟩))):=dP (M HW6).2.1 (by omega)
   have vf:=Q r6
   clear r6
   go_wp2_with fail
   generalize (((((((w5.alloc (E (yt x.id x.side x.ticks x.left x.life x.tag).toArray 49)).setCell (J (w.heap.size + 1) 0) (H 0)).setCell (J (w.heap.size + 1) 1) (H 0)).setCell (J (w.heap.size + 1) 2) (H 0)).setCell (J (w.heap.size + 1) 3) (H 0)).setCell (J (w.heap.size + 1) 4) (H 0)).setCell (J (w.heap.size + 1) 5) (yi ⟨#[]⟩)) = W6 at vf vI ⊢
   obtain ⟨d0,d1,d2,d3,d4,d5⟩:=yz (M vf)
   try simp only [Exit.inBlock,Exit.then]
   refine bodyPost_ret (by simp [results,Tryz.results18,go_sem,d0,d1,d2,d3,d4,d5]; try rfl) rfl ?_
   exact ⟨by rw [M HF]; rfl,M vI⟩
  ·have HF:Hid (frRes next l sd = .tuple #[x.val,H 0]):=by
    show _ = _
    rw [frRes,if_pos (M pT),M HQQ]
    have z:=(M HXF).1
    have K:=(M HXF).2
    unfold hdF at K
    unfold hdO at z
    cases hh:q.head? with
    | none=>rw [hh] at K; cases K
    | some o=>rw [hh] at z; simp at z; rw [z]
   obtain ⟨⟨x0,y0,z0⟩,⟨x1,y1,z1⟩,⟨x2,y2,z2⟩,⟨x3,y3,z3⟩,⟨x4,y4,z4⟩,x5,y5,z5⟩:=there6 (M HW6).1
   have r6:World.rangeAt (((((((w5.alloc (E (yt x.id x.side x.ticks x.left x.life x.tag).toArray 49)).setCell (J (w.heap.size + 1) 0) (H x.id)).setCell (J (w.heap.size + 1) 1) (H x.side)).setCell (J (w.heap.size + 1) 2) (H x.ticks)).setCell (J (w.heap.size + 1) 3) (H x.left)).setCell (J (w.heap.size + 1) 4) (H x.life)).setCell (J (w.heap.size + 1) 5) (yi x.tag)) (w.heap.size + 1) 0 (yt x.id x.side x.ticks x.left x.life x.tag):=dQ (M HW6).1
   have vI:Hid (yl w (((((((w5.alloc (E (yt x.id x.side x.ticks x.left x.life x.tag).toArray 49)).setCell (J (w.heap.size + 1) 0) (H x.id)).setCell (J (w.heap.size + 1) 1) (H x.side)).setCell (J (w.heap.size + 1) 2) (H x.ticks)).setCell (J (w.heap.size + 1) 3) (H x.left)).setCell (J (w.heap.size + 1) 4) (H x.life)).setCell (J (w.heap.size + 1) 5) (yi x.tag))):=dP (M HW6).2.1 (by omega)
   have vf:=Q r6
   clear r6
   go_wp2_with fail
   generalize (((((((w5.alloc (E (yt x.id x.side x.ticks x.left x.life x.tag).toArray 49)).setCell (J (w.heap.size + 1) 0) (H x.id)).setCell (J (w.heap.size + 1) 1) (H x.side)).setCell (J (w.heap.size + 1) 2) (H x.ticks)).setCell (J (w.heap.size + 1) 3) (H x.left)).setCell (J (w.heap.size + 1) 4) (H x.life)).setCell (J (w.heap.size + 1) 5) (yi x.tag)) = W6 at vf vI ⊢
   obtain ⟨d0,d1,d2,d3,d4,d5⟩:=yz (M vf)
   try simp only [Exit.inBlock,Exit.then]
   refine bodyPost_ret (by simp [results,Tryz.results18,go_sem,d0,d1,d2,d3,d4,d5]; try rfl) rfl ?_
   exact ⟨by rw [M HF]; rfl,M vI⟩
theorem ba (n a b:Int) (w:World) :
  Calls Tryz.prog 80 #[H n,H a,H b] w fun e w'=>e = .returned (.bool (betB n a b))∧w' = w:=by
 go_enter Tryz.func80,Tryz.ntmps80
 go_wp2
 all_goals go_ret
 all_goals exact ⟨zl (by rw [Bool.eq_iff_iff]; simp [betB]; omega),rfl⟩
theorem l03Tag_any (s:ByteArray) (w:World) (hs:s.size ≤ maxLen) :
  Calls Tryz.prog 130 #[yi s] w fun e w'=>e = .returned (.bool (tagB s))∧w' = w:=by
 unfold maxLen at hs
 by_cases hl:s.size ≤ 12
 ·have hl':¬ ((12:Int) < s.size):=by omega
  go_enter Tryz.func130,Tryz.ntmps130
  go_wp2_with fail
  go_loop [3] (fun i=>∃ k:Nat,k ≤ s.size∧i = H k∧Hid (s.data.toList.all tagC = (s.data.toList.drop k).all tagC)) (fun i=>s.size - (intOf i).toNat)
  case atStart=>exact ⟨0,Nat.zero_le _,rfl,by simp [Hid]⟩
  case round =>
   obtain ⟨k,hk,rfl,D⟩:=hrel
   by_cases xL:k < s.size
   ·have uO:(k:Int) < s.size:=by omega
    have jW:=drop_cons s k xL
    have hw:betB (s[k].toNat:Int) 32 126 = tagC s[k]:=rfl
    cases ht:tagC s[k]
    ·have HT:Hid (s.data.toList.all tagC = false):=by
      have:=M D
      rw [jW,List.all_cons,ht,Bool.false_and] at this
      exact this
     rw [ht] at hw
     have hor:(s[k].toNat:Int) < 32 ∨ (32 ≤ (s[k].toNat:Int)∧(126:Int) < s[k].toNat):=by
      simp [betB] at hw; omega
     clear jW ht hw
     rcases hor with h32 | ⟨h32,h126⟩
     ·have hd:decide ((s[k].toNat:Int) < 32) = true:=by simpa using h32
      go_wp2_with fail
      go_ret
      exact ⟨zl (tag_no s (M HT)).symm,rfl⟩
     ·have hd:decide ((s[k].toNat:Int) < 32) = false:=by simpa using h32
      go_wp2_with fail
      go_ret
      exact ⟨zl (tag_no s (M HT)).symm,rfl⟩
    ·have HN:Hid (s.data.toList.all tagC = (s.data.toList.drop (k + 1)).all tagC):=by
      have:=M D
      rw [jW,List.all_cons,ht,Bool.true_and] at this
      exact this
     rw [ht] at hw
     have hor:32 ≤ (s[k].toNat:Int)∧(s[k].toNat:Int) ≤ 126:=by
      simp [betB] at hw; omega
     obtain ⟨h32,h126⟩:=hor
     have hd:decide ((s[k].toNat:Int) < 32) = false:=by simpa using h32
     have hd2:¬ ((126:Int) < s[k].toNat):=by omega
     clear jW ht hw
     go_wp2_with fail
     go_round
     case rel=>exact ⟨k + 1,by omega,by go_num,M HN⟩
     case measure=>simp [intOf]; omega
   ·go_wp2_with fail
    go_ret
    have h:=M D
    rw [yX (by rw [data_len]; omega)] at h
    exact ⟨zl (tag_yes s hl (by rw [h]; rfl)).symm,rfl⟩
 ·have hl':(12:Int) < s.size:=by omega
  go_enter Tryz.func130,Tryz.ntmps130
  go_wp2_with fail
  go_ret
  exact ⟨zl (tag_long s hl).symm,rfl⟩
theorem l03Order_any (o:Od) (w:World) (hs:o.tag.size ≤ maxLen) :
  Calls Tryz.prog 81 #[.agg (yt o.id o.side o.ticks o.left o.life o.tag).toArray] w fun e w'=>e = .returned (.bool (ordB o))∧yl w w':=by
 have HT:=Q (fun W=>l03Tag_any o.tag W hs)
 clear hs
 cases z:betB o.side 1 2
 ·go_enter Tryz.func81,Tryz.ntmps81
  go_wp2_with (first | (go_at_call 130; refine (M HT _).mono ?_; rintro e w' ⟨rfl,rfl⟩) | (go_at_call 80; refine (ba _ _ _ _).mono ?_; rintro e w' ⟨rfl,rfl⟩))
  go_ret
  exact ⟨zl (by simp [ordB,z]),by go_grown⟩
 ·
  cases h4:betB o.ticks 1 1000000
  ·go_enter Tryz.func81,Tryz.ntmps81
   go_wp2_with (first | (go_at_call 130; refine (M HT _).mono ?_; rintro e w' ⟨rfl,rfl⟩) | (go_at_call 80; refine (ba _ _ _ _).mono ?_; rintro e w' ⟨rfl,rfl⟩))
   go_ret
   exact ⟨zl (by simp [ordB,z,h4]),by go_grown⟩
  ·
   cases h5:betB o.left 1 1000000
   ·go_enter Tryz.func81,Tryz.ntmps81
    go_wp2_with (first | (go_at_call 130; refine (M HT _).mono ?_; rintro e w' ⟨rfl,rfl⟩) | (go_at_call 80; refine (ba _ _ _ _).mono ?_; rintro e w' ⟨rfl,rfl⟩))
    go_ret
    exact ⟨zl (by simp [ordB,z,h4,h5]),by go_grown⟩
   ·
    cases K:betB o.life 0 1
    ·go_enter Tryz.func81,Tryz.ntmps81
     go_wp2_with (first | (go_at_call 130; refine (M HT _).mono ?_; rintro e w' ⟨rfl,rfl⟩) | (go_at_call 80; refine (ba _ _ _ _).mono ?_; rintro e w' ⟨rfl,rfl⟩))
     go_ret
     exact ⟨zl (by simp [ordB,z,h4,h5,K]),by go_grown⟩
    ·
     cases h3:tagB o.tag
     ·go_enter Tryz.func81,Tryz.ntmps81
      go_wp2_with (first | (go_at_call 130; refine (M HT _).mono ?_; rintro e w' ⟨rfl,rfl⟩) | (go_at_call 80; refine (ba _ _ _ _).mono ?_; rintro e w' ⟨rfl,rfl⟩))
      go_ret
      exact ⟨zl (by simp [ordB,z,h4,h5,K,h3]),by go_grown⟩
     ·go_enter Tryz.func81,Tryz.ntmps81
      go_wp2_with (first | (go_at_call 130; refine (M HT _).mono ?_; rintro e w' ⟨rfl,rfl⟩) | (go_at_call 80; refine (ba _ _ _ _).mono ?_; rintro e w' ⟨rfl,rfl⟩))
      go_ret
      exact ⟨zl (by simp [ordB,z,h4,h5,K,h3]),by go_grown⟩
theorem l03Better_any (o c:Od) (w:World) :
  Calls Tryz.prog 131 #[.agg (yt o.id o.side o.ticks o.left o.life o.tag).toArray,.agg (yt c.id c.side c.ticks c.left c.life c.tag).toArray] w fun e w'=>e = .returned (.bool (ahdB o c))∧w.grownBy w' none:=by
 by_cases h:o.ticks = c.ticks
 ·have h':(o.ticks == c.ticks) = true:=by simpa using h
  have HA:Hid (ahdB o c = decide (o.id < c.id)):=if_pos h
  go_enter Tryz.func131,Tryz.ntmps131
  go_wp2_with fail
  go_ret
  exact ⟨zl (M HA).symm,(World.grownBy_alloc _ _ _).trans (World.grownBy_alloc _ _ _)⟩
 ·have HA:Hid (ahdB o c = (decide (c.ticks < o.ticks) == decide (o.side = 1))):=if_neg h
  go_enter Tryz.func131,Tryz.ntmps131
  go_wp2_with fail
  go_ret
  exact ⟨zl (by rw [M HA]; rfl),(World.grownBy_alloc _ _ _).trans (World.grownBy_alloc _ _ _)⟩
theorem en (v:Value) (l:List Od) (sd:Int) (w:World) (hr:RdR Od.vs 6 w v l) (hri:aH l) (hn:l.length ≤ 1000) :
  Calls Tryz.prog 83 #[v,H sd] w fun e w'=>∃ k:Int,e = .returned (H k)∧FrPre l sd l.length k∧w.grownBy w' none:=by
 obtain ⟨a,F,rfl,xD,hc⟩:=hr
 have xn:∀ (k:Nat) (c:Od),l[k]? = some c→∃ b off,a = some (J b off)∧b < w.heap.size∧w.rangeAt b (off + k * 6) c.vs:=by
  intro k c hk
  obtain ⟨b,off,z,K,h3⟩:=hc (by intro h; rw [h] at hk; simp at hk)
  exact ⟨b,off,z,K,h3 k c hk⟩
 have HC:=Q xn
 have HRI:=Q hri
 clear xn hc hri
 go_enter Tryz.func83,Tryz.ntmps83
 go_wp2_with fail
 go_loopw [5,6] (fun bv iv wr=>∃ (k:Nat) (best:Int),bv = H best∧k ≤ l.length∧iv = H k∧Hid (FrPre l sd k best)∧w.grownBy wr none) (fun _ iv _=>l.length - (intOf iv).toNat)
 case atStart=>exact ⟨0,-1,rfl,Nat.zero_le _,rfl,.inl ⟨rfl,fun j o L=>by omega⟩,yO _ _⟩
 case round =>
  obtain ⟨k,best,rfl,hk,rfl,om,hg⟩:=hrel
  have HG:=Q hg
  clear hg
  by_cases xL:k < l.length
  ·obtain ⟨c,uC⟩:∃ c,l[k]? = some c:=⟨_,yE xL⟩
   obtain ⟨b,off,rfl,hb,xk⟩:=M HC k c uC
   have qW:=Q uC
   obtain ⟨g0,g1,g2,g3,g4,g5⟩:=zx (zm xk (M HG) hb (by simp))
   have uO:(k:Int) < l.length:=by omega
   have HCL:=Q xk
   have HHB:=Q hb
   clear uC xk
   by_cases hs:c.side = sd
   ·subst hs
    rcases M om with ⟨rfl,qS⟩ | ⟨i,o,rfl,hi,kT,oV,hah⟩
    ·have HN:=Q (frPre_first (M om) (M qW) rfl)
     clear qS
     go_wp2_with fail
     go_quiet (fail)
     go_wp2_with fail
     go_roundw
     case rel=>exact ⟨k + 1,k,rfl,by omega,by go_num,M HN,bY (M HG) rfl rfl rfl rfl⟩
     case measure=>simp [intOf]; omega
    ·obtain ⟨b',vH,ji,oP,vS⟩:=M HC i o kT
     simp only [Option.some.injEq,Addr.mk.injEq,and_true] at ji
     obtain ⟨rfl,rfl⟩:=ji
     obtain ⟨e0,e1,e2,e3,e4,e5⟩:=zx (zm vS (M HG) hb (by simp))
     have hlti:(i:Int) < l.length:=by have:=(yD.1 kT).1; omega
     have uv:¬ ((i:Int) < 0):=by omega
     have hi0':decide ((i:Int) < 0) = false:=by simp
     have qv:Hid (∀ w',wr.grownBy w' none→w'.rangeAt b (off + k * 6) c.vs∧w'.rangeAt b (off + i * 6) o.vs):=fun w' h'=>⟨zm (zm (M HCL) (M HG) hb (by simp)) h' (yG hb (M HG).size) (by simp),zm (zm vS (M HG) hb (by simp)) h' (yG hb (M HG).size) (by simp)⟩
     have HHI:Hid (l[i]? = some o):=kT
     clear hah kT vS oV
     go_wp2_with fail
     refine di (W:=wr) (by kernel_rfl) (by kernel_rfl) (yO _ _) ?_
     iterate 19 (
      refine aN (v:=?_) ?_ ?_ ?_
      rotate_left
      ·rfl
      ·intro w' uc
       obtain ⟨c0,c1,c2,c3,c4,c5⟩:=zx (M qv w' uc).1
       obtain ⟨d0,d1,d2,d3,d4,d5⟩:=zx (M qv w' uc).2
       go_simp
       try rfl
      intro h2 hK
      go_simp
      refine hK _ ?_
      clear hK h2)
     refine aN (v:=.bool (ahdB c o)) ?_ ?_ ?_
     ·rfl
     ·intro w' uc
      go_simp
      refine (l03Better_any c o _).mono ?_
      rintro e w3 ⟨rfl,uz⟩
      exact ⟨rfl,uc.trans uz⟩
     intro h2 hK
     go_simp
     refine hK _ ?_
     clear hK h2
     iterate 2 (
      refine aN (v:=?_) ?_ ?_ ?_
      rotate_left
      ·rfl
      ·intro w' uc
       go_simp
       try rfl
      intro h2 hK
      go_simp
      refine hK _ ?_
      clear hK h2)
     refine wpQuiet_nil ?_
     intro w2 qj
     have vz:=Q ((M HG).trans qj)
     clear qj g0 g1 g2 g3 g4 g5 e0 e1 e2 e3 e4 e5
     cases hah:ahdB c o
     ·have HN:=Q (frPre_worse (M HRI) (M om) (M HHI) (M qW) rfl hah)
      go_wp2_with fail
      go_roundw
      case rel=>exact ⟨k + 1,i,rfl,by omega,by go_num,M HN,M vz⟩
      case measure=>simp [intOf]; omega
     ·have HN:=Q (frPre_better (M HRI) (M om) (M HHI) (M qW) rfl hah)
      go_wp2_with fail
      go_roundw
      case rel=>exact ⟨k + 1,k,rfl,by omega,by go_num,M HN,M vz⟩
      case measure=>simp [intOf]; omega
   ·have HN:=Q (frPre_skip (M om) (M qW) hs)
    have hs':(c.side == sd) = false:=by simpa using hs
    go_wp2_with fail
    go_quiet (fail)
    go_wp2_with fail
    go_roundw
    case rel=>exact ⟨k + 1,best,rfl,by omega,by go_num,M HN,bY (M HG) rfl rfl rfl rfl⟩
    case measure=>simp [intOf]; omega
  ·go_wp2_with fail
   go_ret
   have h:=M om
   rw [show k = l.length by omega] at h
   exact ⟨_,rfl,h,M HG⟩
end Go.Proofs.YtbakanofkghmiaaGreat
