/-
  What is due of a taker, by the program: proved by walking the method.
-/
import Derived.Test.YtnphbkgfjanmgaaGreatDoorDj27
set_option linter.unusedVariables false
set_option maxHeartbeats 6400000
set_option maxRecDepth 100000
namespace Go.Proofs.YtnphbkgfjanmgaaGreatDoor
open Go.RowKit
def DTk (vs:List (Option Value)) (base:World) (l:List Od) (sd:Int) (x:Od) (p:Prop) (hj:World) (j:Nat) (v:Value):Prop :=
 (j = 10→¬ p→SdV hj v l sd)∧(j = 11→¬ p→FrV hj v l sd)∧(j = 16→∃ pb,v = J pb 0∧base.heap.size ≤ pb∧(¬ p→hj.there pb 0 6∧pb < hj.heap.size)∧(p→hj.rangeAt pb 0 x.vs∧pb < hj.heap.size))∧∀ u,vs[j]? = some (some u)→v = u
section
variable {vs:List (Option Value)} {base hj V':World} {l:List Od} {sd:Int} {x:Od} {p:Prop}
theorem dtk_grow (hp:¬ p) (E:yp hj V'):∀ j v,DTk vs base l sd x p hj j v→DTk vs base l sd x p V' j v:=by
 rintro j v ⟨N,Y,h3,h4⟩
 refine ⟨fun V hp=>?_,fun V hp=>?_,fun V=>?_,h4⟩
 ·rcases N V hp with ⟨N,b,Y,h3⟩ | ⟨N,b,Y,h3⟩
  ·exact .inl ⟨N,b,Y,zu h3 (E.block _ (zH h3))⟩
  ·exact .inr ⟨N,b,Y,zu h3 (E.block _ (zH h3))⟩
 ·rcases Y V hp with ⟨N,b,Y,h3⟩ | ⟨N,b,Y,h3⟩
  ·exact .inl ⟨N,b,Y,zu h3 (E.block _ (zH h3))⟩
  ·exact .inr ⟨N,b,Y,zu h3 (E.block _ (zH h3))⟩
 ·obtain ⟨pb,h5,h6,h7,h8⟩:=h3 V
  refine ⟨pb,h5,h6,fun hp=>?_,fun h=>absurd h hp⟩
  obtain ⟨h9,uV⟩:=h7 hp
  exact ⟨zo h9 E uV,yK uV E.size⟩
theorem dtk_last {v:Value}:∀ j,DTk vs base l sd x False hj j v→(j = 16→∃ pb,v = J pb 0∧base.heap.size ≤ pb∧(¬ True→V'.there pb 0 6∧pb < V'.heap.size)∧(True→V'.rangeAt pb 0 x.vs∧pb < V'.heap.size))→DTk vs base l sd x True V' j v :=
 fun j h h16=>⟨fun _ hp=>absurd trivial hp,fun _ hp=>absurd trivial hp,h16,h.2.2.2⟩
end
theorem takerDue_any {G B r:Nat} {vq:Value} {g:Gr} (w:World) (h:GS G B r w vq g) (jH:0 ≤ g.tk.left) (hg:g.tk.left ≠ 0→GoodL g.l):Calls Tryz.prog 59 #[J G 0] w fun e w'=>e = .returned (duV (takD g.l g.cm g.tk))∧yp w w':=by
 have hsf:=sfl
 have hG:=h.lt
 obtain ⟨xz,HX⟩:=fE w [I 0,I 0,I 0,I 0,I 0] 29
 have HS:Hid ((w.alloc (L #[I 0,I 0,I 0,I 0,I 0] 29)).heap.size = w.heap.size + 1):=by show _ = _; simp
 have HG:=H (zy h xz)
 have HB:=H xz
 clear h xz
 obtain ⟨nx,l,bg,⟨ck,A,ct,F,cq,ci,O,cg⟩,⟨ti,kT,tt,tl,kS,tg⟩⟩:=g
 simp only at jH hg ⊢
 go_enter Tryz.func59,Tryz.ntmps59
 refine fD fun zb HK=>?_
 go_wp2_with fail
 refine U HK _ _ ?_
 clear HK
 generalize (w.alloc (L #[I 0,I 0,I 0,I 0,I 0] 29)) = W1 at HX HS HG HB ⊢
 have c10:W1.cell? (Q G 10) = some (I ti):=K (U HG).box 10 rfl
 have c13:W1.cell? (Q G 13) = some (I tl):=K (U HG).box 13 rfl
 go_wp2_with fail
 go_quiet (fail)
 have qG:Hid (Bx (W1.drewN nq) w.heap.size [I 0,I 0,I 0,I 0,I 0]):=cQ (U HX) nq
 have HGG:Hid (GS G B r (W1.drewN nq) vq ⟨nx,l,bg,⟨ck,A,ct,F,cq,ci,O,cg⟩,⟨ti,kT,tt,tl,kS,tg⟩⟩):=zy (U HG) ⟨rfl,rfl,rfl,Nat.le_refl _,fun _ _=>rfl⟩
 have HBB:Hid (yp w (W1.drewN nq)):=zV (U HB) nq
 have jB:Hid ((W1.drewN nq).heap.size = w.heap.size + 1):=U HS
 clear HX HG HB HS c10 c13
 generalize W1.drewN nq = xo at qG HGG HBB jB ⊢
 by_cases h0:tl = 0
 ·have HD:Hid (takD l ⟨ck,A,ct,F,cq,ci,O,cg⟩ ⟨ti,kT,tt,tl,kS,tg⟩ = zDu):=by show _ = _; unfold takD; rw [if_pos h0]
  have b0:(tl == 0) = true:=by simpa using h0
  clear h0
  have z0:=K (U qG) 0 rfl
  have z1:=K (U qG) 1 rfl
  have z2:=K (U qG) 2 rfl
  have z3:=K (U qG) 3 rfl
  have z4:=K (U qG) 4 rfl
  have f0:=zd (U qG) 0 (by decide)
  have f1:=zd (U qG) 1 (by decide)
  have f2:=zd (U qG) 2 (by decide)
  have f3:=zd (U qG) 3 (by decide)
  have f4:=zd (U qG) 4 (by decide)
  go_wp2_with fail
  try simp (config:={ zetaDelta:=true }) only [Exit.noGoto_ret]
  change bodyPost _ _ _ _ _ (World.setCells xo w.heap.size 0 [I 0,I 0,I 0,I 0,I 0])
  have xp:Hid ((World.setCells xo w.heap.size 0 [I 0,I 0,I 0,I 0,I 0]).rangeAt w.heap.size 0 [I 0,I 0,I 0,I 0,I 0]∧yp w (World.setCells xo w.heap.size 0 [I 0,I 0,I 0,I 0,I 0])):=⟨(zw (U qG) (by simp only [List.length_cons,List.length_nil])).r,zi w.heap.size yb [I 0,I 0,I 0,I 0,I 0] 0 xo (U HBB)⟩
  generalize World.setCells xo w.heap.size 0 [I 0,I 0,I 0,I 0,I 0] = WE at xp ⊢
  obtain ⟨d0,d1,d2,d3,d4⟩:=yC (U xp).1
  try simp only [Exit.inBlock,Exit.then]
  refine bodyPost_ret (by simp [results,Tryz.results59,go_sem,d0,d1,d2,d3,d4]; try rfl) rfl ?_
  exact ⟨by rw [U HD]; rfl,(U xp).2⟩
 have qK:=H (hg h0)
 have b0:(tl == 0) = false:=by simpa using h0
 have HLB:Hid (∀ o' ∈ l,0 ≤ o'.left∧o'.left ≤ 1000000):=fun o' vM=>by have:=(U qK).left o' vM; omega
 have HRW:=H (zK (U HGG).row (yO (U qK).len (by decide)))
 generalize uS:othS A = sd
 have HSD:=H uS
 generalize hq:quOf (decide (sd = 1)) (zt l sd) = q
 have kf:=frOf_eq q
 generalize hx:hdO q = x at kf
 generalize oI:hdF q = fb at kf
 have HFR:Hid (frOf (quOf (decide (sd = 1)) (zt l sd)) = .tuple #[.agg (yx x.id x.side x.ticks x.left x.life x.tag).toArray,.bool fb]):=by show _ = _; rw [hq]; exact kf
 have HFO:Hid (aR l (othS A) = if fb = true then some x else none):=by
  show _ = _
  rw [aR,uS,hq,← hx,← oI,hdO,hdF]
  cases q.head? <;> rfl
 clear uS hq kf hx oI q hg
 have HC1:Hid (xo.cell? (Q G 1) = some (I nx)):=K (U HGG).box 1 rfl
 have HC2:Hid (xo.cell? (Q G 2) = some vq):=K (U HGG).box 2 rfl
 have HC4:Hid (xo.cell? (Q G 4) = some (I A)):=K (U HGG).box 4 rfl
 go_wp2_with fail
 refine zm (RG xo (fun f=>{ tmps:=#[J G 0,M,J w.heap.size 0,I ti,I tl,f 16,f 18,J G 0,J G 0,J G 10,J G 10,I ti,J G 0,J G 0,J G 10,J G 13,I tl,I tl,.bool false,M,f 13,f 0,f 1,f 2,f 3,f 4,f 5,f 6,f 7,f 8,f 9,f 10,f 11,f 12,f 14,f 15,M,M,M,M,M,M,M,M,M,M,M,M,M,M,M,M,M,M,M,M,M,M,M,M,M,M,M,M,M,M,M,M],defers:=[] }) 17 (DTk [some (J G 0),some (J G 0),some (J G 1),some (.agg #[I nx,vq]),some (J G 0),some (J G 0),some (J G 4),some (J G 4),some (I A),some (I sd),none,none,some (.tuple #[.agg (yx x.id x.side x.ticks x.left x.life x.tag).toArray,.bool fb]),some (.tuple #[.agg (yx x.id x.side x.ticks x.left x.life x.tag).toArray,.bool fb]),some (.agg (yx x.id x.side x.ticks x.left x.life x.tag).toArray),some (.bool fb),none,none,some (.bool fb)] xo l sd x)) (by kernel_rfl) ?_ ?_ ?_
 ·exact ⟨fun _=>M,rfl,⟨rfl,rfl,rfl,Nat.le_refl _,fun _ _=>rfl⟩,fun j V=>by rw [yJ] at V; split at V <;> simp at V⟩
 ·rintro xx cs hj ⟨f,rfl,xl,hD⟩ hx xO
  have xq:=bT xO hx (by kernel_rfl)
  have ph:xx[17]? = some true:=xq 17 (by simp)
  have g18:f 18 = .bool fb:=(hD 18 (xq 18 (by simp))).2.2.2 _ rfl
  obtain ⟨pb,g16,hpb,-,qy⟩:=(hD 16 (xq 16 (by simp))).2.2.1 rfl
  obtain ⟨hrg,pY⟩:=qy ph
  have vi:=H (zy (U HGG) xl)
  have hss:=U jB
  have qG:=H (zf (U qG) xl (by omega))
  have xN:=H (fC (U HBB) xl)
  have HRG:=H hrg
  dsimp only
  simp only [g18,g16]
  generalize f 0 = v0,f 1 = v1,f 2 = v2,f 3 = v3,f 4 = v4,f 5 = v5,f 6 = v6,f 7 = v7,f 8 = v8,f 9 = v9,f 10 = v10,f 11 = v11,f 12 = v12,f 13 = v13,f 14 = v14,f 15 = v15
  clear hD xq xO hx ph qy xl g16 g18 hrg f xx HC1 HC2 HC4 hss HGG HBB jB
  cases fb
  ·have HFO:Hid (aR l (othS A) = none):=by show _ = _; have:=U HFO; simpa using this
   have HD:Hid (takD l ⟨ck,A,ct,F,cq,ci,O,cg⟩ ⟨ti,kT,tt,tl,kS,tg⟩ = lftD ⟨ck,A,ct,F,cq,ci,O,cg⟩ ⟨ti,kT,tt,tl,kS,tg⟩):=by show _ = _; unfold takD; rw [if_neg h0]; simp only [U HFO]
   clear h0
   go_wp2_with fail
   go_quiet (fail)
   have uU:Hid (Bx (hj.drewN nq) w.heap.size [I 0,I 0,I 0,I 0,I 0]):=cQ (U qG) _
   have uC:Hid (GS G B r (hj.drewN nq) vq ⟨nx,l,bg,⟨ck,A,ct,F,cq,ci,O,cg⟩,⟨ti,kT,tt,tl,kS,tg⟩⟩):=zy (U vi) ⟨rfl,rfl,rfl,Nat.le_refl _,fun _ _=>rfl⟩
   have uj:Hid (yp w (hj.drewN nq)):=zV (U xN) _
   have HZ5:Hid (w.heap.size < (hj.drewN nq).heap.size):=yL _ _ (K (U uU) 0 rfl)
   clear qG vi xN
   generalize hj.drewN nq = h2 at uU uC uj HZ5 ⊢
   have c4:=K (U uC).box 4 rfl
   have c5:=K (U uC).box 5 rfl
   have c6:=K (U uC).box 6 rfl
   have c7:=K (U uC).box 7 rfl
   have c8:=K (U uC).box 8 rfl
   have c9:=K (U uC).box 9 rfl
   go_wp2_with fail
   refine (dP ⟨ck,A,ct,F,cq,ci,O,cg⟩ h2).mono ?_
   rintro e w5 ⟨rfl,uh⟩
   have vw:=H (zf (U uU) uh (by have:=U HZ5; omega))
   have qA:=H (fC (U uj) uh)
   clear uh c4 c5 c6 c7 c8 c9 uU uj uC
   have z0:=K (U vw) 0 rfl
   have z1:=K (U vw) 1 rfl
   have z2:=K (U vw) 2 rfl
   have z3:=K (U vw) 3 rfl
   have z4:=K (U vw) 4 rfl
   have f0:=zd (U vw) 0 (by decide)
   have f1:=zd (U vw) 1 (by decide)
   have f2:=zd (U vw) 2 (by decide)
   have f3:=zd (U vw) 3 (by decide)
   have f4:=zd (U vw) 4 (by decide)
   have HQ:Hid (lftD ⟨ck,A,ct,F,cq,ci,O,cg⟩ ⟨ti,kT,tt,tl,kS,tg⟩ = if aW ct = true then ⟨4,ti,0,tl,0⟩ else ⟨5,ti,0,tl,0⟩):=rfl
   cases jg:aW ct
   ·have HQ2:Hid (lftD ⟨ck,A,ct,F,cq,ci,O,cg⟩ ⟨ti,kT,tt,tl,kS,tg⟩ = ⟨5,ti,0,tl,0⟩):=by show _ = _; rw [U HQ,jg]; rfl
    clear jg HQ
    go_wp2_with fail
    try simp (config:={ zetaDelta:=true }) only [Exit.noGoto_ret]
    change bodyPost _ _ _ _ _ (World.setCells w5 w.heap.size 0 [I 5,I ti,I 0,I tl,I 0])
    have xp:Hid ((World.setCells w5 w.heap.size 0 [I 5,I ti,I 0,I tl,I 0]).rangeAt w.heap.size 0 [I 5,I ti,I 0,I tl,I 0]∧yp w (World.setCells w5 w.heap.size 0 [I 5,I ti,I 0,I tl,I 0])):=⟨(zw (U vw) (by simp only [List.length_cons,List.length_nil])).r,zi w.heap.size yb [I 5,I ti,I 0,I tl,I 0] 0 w5 (U qA)⟩
    generalize World.setCells w5 w.heap.size 0 [I 5,I ti,I 0,I tl,I 0] = WE at xp ⊢
    obtain ⟨d0,d1,d2,d3,d4⟩:=yC (U xp).1
    try simp only [Exit.inBlock,Exit.then]
    refine bodyPost_ret (by simp [results,Tryz.results59,go_sem,d0,d1,d2,d3,d4]; try rfl) rfl ?_
    exact ⟨by rw [U HD,U HQ2]; rfl,(U xp).2⟩
   ·have HQ2:Hid (lftD ⟨ck,A,ct,F,cq,ci,O,cg⟩ ⟨ti,kT,tt,tl,kS,tg⟩ = ⟨4,ti,0,tl,0⟩):=by show _ = _; rw [U HQ,jg]; rfl
    clear jg HQ
    go_wp2_with fail
    try simp (config:={ zetaDelta:=true }) only [Exit.noGoto_ret]
    change bodyPost _ _ _ _ _ (World.setCells w5 w.heap.size 0 [I 4,I ti,I 0,I tl,I 0])
    have xp:Hid ((World.setCells w5 w.heap.size 0 [I 4,I ti,I 0,I tl,I 0]).rangeAt w.heap.size 0 [I 4,I ti,I 0,I tl,I 0]∧yp w (World.setCells w5 w.heap.size 0 [I 4,I ti,I 0,I tl,I 0])):=⟨(zw (U vw) (by simp only [List.length_cons,List.length_nil])).r,zi w.heap.size yb [I 4,I ti,I 0,I tl,I 0] 0 w5 (U qA)⟩
    generalize World.setCells w5 w.heap.size 0 [I 4,I ti,I 0,I tl,I 0] = WE at xp ⊢
    obtain ⟨d0,d1,d2,d3,d4⟩:=yC (U xp).1
    try simp only [Exit.inBlock,Exit.then]
    refine bodyPost_ret (by simp [results,Tryz.results59,go_sem,d0,d1,d2,d3,d4]; try rfl) rfl ?_
    exact ⟨by rw [U HD,U HQ2]; rfl,(U xp).2⟩
  ·have HFS:Hid (aR l (othS A) = some x):=by show _ = _; have:=U HFO; simpa using this
   have ut:Hid (GS G B r hj.drew vq ⟨nx,l,bg,⟨ck,A,ct,F,cq,ci,O,cg⟩,⟨ti,kT,tt,tl,kS,tg⟩⟩):=zy (U vi) ⟨rfl,rfl,rfl,Nat.le_refl _,fun _ _=>rfl⟩
   have HRG4:Hid (hj.drew.rangeAt pb 0 x.vs):=U HRG
   have c4:=K (U ut).box 4 rfl
   have c5:=K (U ut).box 5 rfl
   have c6:=K (U ut).box 6 rfl
   have c7:=K (U ut).box 7 rfl
   have c8:=K (U ut).box 8 rfl
   have c9:=K (U ut).box 9 rfl
   obtain ⟨p0,p1,p2,p3,p4,p5⟩:=zB (U HRG4)
   simp only [Nat.zero_add] at p0 p1 p2 p3 p4 p5
   go_wp2_with fail
   refine zE 7 (by kernel_rfl) (by kernel_rfl) ?_
   simp only [yU,List.take_zero,yV,List.drop_zero]
   repeat still_step
   refine wpStill_nil ?_
   go_wp2_with fail
   refine (meets_any ⟨ck,A,ct,F,cq,ci,O,cg⟩ x hj.drew).mono ?_
   rintro e h2 ⟨rfl,uh⟩
   have hzV:w.heap.size < hj.heap.size:=yL _ _ (K (U qG) 0 rfl)
   have uU:=H (zf (zJ (U qG)) uh hzV)
   have uC:=H (zy (U ut) uh)
   have uj:Hid (yp w h2):=⟨uh.os.trans (U xN).os,uh.tape.trans (U xN).tape,uh.output.trans (U xN).output,yO (U xN).size uh.size,fun k hk=>(uh.block k (Nat.lt_trans hk hzV)).trans ((U xN).block k hk)⟩
   have HZ5:Hid (w.heap.size < h2.heap.size):=yK hzV uh.size
   obtain ⟨p0,p1,p2,p3,p4,p5⟩:=zB (zc (U HRG4) uh pY)
   simp only [Nat.zero_add] at p0 p1 p2 p3 p4 p5
   clear c4 c5 c6 c7 c8 c9 uh HRG4 ut hzV qG vi xN hsf
   cases hme:bp ⟨ck,A,ct,F,cq,ci,O,cg⟩ x
   ·have HD:Hid (takD l ⟨ck,A,ct,F,cq,ci,O,cg⟩ ⟨ti,kT,tt,tl,kS,tg⟩ = lftD ⟨ck,A,ct,F,cq,ci,O,cg⟩ ⟨ti,kT,tt,tl,kS,tg⟩):=by show _ = _; unfold takD; rw [if_neg h0]; simp only [U HFS,hme]; rfl
    clear h0 hme p0 p1 p2 p3 p4 p5
    have hsf:=sfl
    have c4:=K (U uC).box 4 rfl
    have c5:=K (U uC).box 5 rfl
    have c6:=K (U uC).box 6 rfl
    have c7:=K (U uC).box 7 rfl
    have c8:=K (U uC).box 8 rfl
    have c9:=K (U uC).box 9 rfl
    go_wp2_with fail
    refine (dP ⟨ck,A,ct,F,cq,ci,O,cg⟩ h2).mono ?_
    rintro e w5 ⟨rfl,uh⟩
    have vw:=H (zf (U uU) uh (by have:=U HZ5; omega))
    have qA:=H (fC (U uj) uh)
    clear uh c4 c5 c6 c7 c8 c9 uU uj uC
    have z0:=K (U vw) 0 rfl
    have z1:=K (U vw) 1 rfl
    have z2:=K (U vw) 2 rfl
    have z3:=K (U vw) 3 rfl
    have z4:=K (U vw) 4 rfl
    have f0:=zd (U vw) 0 (by decide)
    have f1:=zd (U vw) 1 (by decide)
    have f2:=zd (U vw) 2 (by decide)
    have f3:=zd (U vw) 3 (by decide)
    have f4:=zd (U vw) 4 (by decide)
    have HQ:Hid (lftD ⟨ck,A,ct,F,cq,ci,O,cg⟩ ⟨ti,kT,tt,tl,kS,tg⟩ = if aW ct = true then ⟨4,ti,0,tl,0⟩ else ⟨5,ti,0,tl,0⟩):=rfl
    cases jg:aW ct
    ·have HQ2:Hid (lftD ⟨ck,A,ct,F,cq,ci,O,cg⟩ ⟨ti,kT,tt,tl,kS,tg⟩ = ⟨5,ti,0,tl,0⟩):=by show _ = _; rw [U HQ,jg]; rfl
     clear jg HQ
     go_wp2_with fail
     try simp (config:={ zetaDelta:=true }) only [Exit.noGoto_ret]
     change bodyPost _ _ _ _ _ (World.setCells w5 w.heap.size 0 [I 5,I ti,I 0,I tl,I 0])
     have xp:Hid ((World.setCells w5 w.heap.size 0 [I 5,I ti,I 0,I tl,I 0]).rangeAt w.heap.size 0 [I 5,I ti,I 0,I tl,I 0]∧yp w (World.setCells w5 w.heap.size 0 [I 5,I ti,I 0,I tl,I 0])):=⟨(zw (U vw) (by simp only [List.length_cons,List.length_nil])).r,zi w.heap.size yb [I 5,I ti,I 0,I tl,I 0] 0 w5 (U qA)⟩
     generalize World.setCells w5 w.heap.size 0 [I 5,I ti,I 0,I tl,I 0] = WE at xp ⊢
     obtain ⟨d0,d1,d2,d3,d4⟩:=yC (U xp).1
     try simp only [Exit.inBlock,Exit.then]
     refine bodyPost_ret (by simp [results,Tryz.results59,go_sem,d0,d1,d2,d3,d4]; try rfl) rfl ?_
     exact ⟨by rw [U HD,U HQ2]; rfl,(U xp).2⟩
    ·have HQ2:Hid (lftD ⟨ck,A,ct,F,cq,ci,O,cg⟩ ⟨ti,kT,tt,tl,kS,tg⟩ = ⟨4,ti,0,tl,0⟩):=by show _ = _; rw [U HQ,jg]; rfl
     clear jg HQ
     go_wp2_with fail
     try simp (config:={ zetaDelta:=true }) only [Exit.noGoto_ret]
     change bodyPost _ _ _ _ _ (World.setCells w5 w.heap.size 0 [I 4,I ti,I 0,I tl,I 0])
     have xp:Hid ((World.setCells w5 w.heap.size 0 [I 4,I ti,I 0,I tl,I 0]).rangeAt w.heap.size 0 [I 4,I ti,I 0,I tl,I 0]∧yp w (World.setCells w5 w.heap.size 0 [I 4,I ti,I 0,I tl,I 0])):=⟨(zw (U vw) (by simp only [List.length_cons,List.length_nil])).r,zi w.heap.size yb [I 4,I ti,I 0,I tl,I 0] 0 w5 (U qA)⟩
     generalize World.setCells w5 w.heap.size 0 [I 4,I ti,I 0,I tl,I 0] = WE at xp ⊢
     obtain ⟨d0,d1,d2,d3,d4⟩:=yC (U xp).1
     try simp only [Exit.inBlock,Exit.then]
     refine bodyPost_ret (by simp [results,Tryz.results59,go_sem,d0,d1,d2,d3,d4]; try rfl) rfl ?_
     exact ⟨by rw [U HD,U HQ2]; rfl,(U xp).2⟩
   ·have HD:Hid (takD l ⟨ck,A,ct,F,cq,ci,O,cg⟩ ⟨ti,kT,tt,tl,kS,tg⟩ = ⟨3,ti,x.id,min tl x.left,x.ticks⟩):=by show _ = _; unfold takD; rw [if_neg h0]; simp only [U HFS,hme]; rfl
    clear h0 hme uC
    generalize hq:min tl x.left = qty at HD
    have hmin:∀ W,(Builtin.min_ #[3,3] 3 #[I tl,I x.left]).run Tryz.prog W = .ok (I qty) W:=fun W=>by
     rw [← hq]
     by_cases qj:tl ≤ x.left
     ·rw [Int.min_eq_left qj]; go_simp; omega
     ·rw [Int.min_eq_right (by omega)]; go_simp
    clear hq
    have z0:=K (U uU) 0 rfl
    have z1:=K (U uU) 1 rfl
    have z2:=K (U uU) 2 rfl
    have z3:=K (U uU) 3 rfl
    have z4:=K (U uU) 4 rfl
    have f0:=zd (U uU) 0 (by decide)
    have f1:=zd (U uU) 1 (by decide)
    have f2:=zd (U uU) 2 (by decide)
    have f3:=zd (U uU) 3 (by decide)
    have f4:=zd (U uU) 4 (by decide)
    go_wp2_with fail
    try simp (config:={ zetaDelta:=true }) only [Exit.noGoto_ret]
    change bodyPost _ _ _ _ _ (World.setCells h2 w.heap.size 0 [I 3,I ti,I x.id,I qty,I x.ticks])
    have xp:Hid ((World.setCells h2 w.heap.size 0 [I 3,I ti,I x.id,I qty,I x.ticks]).rangeAt w.heap.size 0 [I 3,I ti,I x.id,I qty,I x.ticks]∧yp w (World.setCells h2 w.heap.size 0 [I 3,I ti,I x.id,I qty,I x.ticks])):=⟨(zw (U uU) (by simp only [List.length_cons,List.length_nil])).r,zi w.heap.size yb [I 3,I ti,I x.id,I qty,I x.ticks] 0 h2 (U uj)⟩
    generalize World.setCells h2 w.heap.size 0 [I 3,I ti,I x.id,I qty,I x.ticks] = WE at xp ⊢
    obtain ⟨d0,d1,d2,d3,d4⟩:=yC (U xp).1
    try simp only [Exit.inBlock,Exit.then]
    refine bodyPost_ret (by simp [results,Tryz.results59,go_sem,d0,d1,d2,d3,d4]; try rfl) rfl ?_
    exact ⟨by rw [U HD]; rfl,(U xp).2⟩
 ·rintro xx cs hj i op ⟨f,rfl,xl,hD⟩ X hx Z xr D
  have kH:i ≠ 15→i < 17→¬ xx[17]? = some true:=fun xD xJ qY=>by
   have h16:=yh X 17 rfl qY 16 rfl
   have oD:=yh X 17 rfl qY 14 rfl
   have jN:=yh X 14 rfl oD 13 rfl
   have uK:=yh X 13 rfl jN 12 rfl
   have uR:=yh X 12 rfl uK 11 rfl
   have uV:=yh X 11 rfl uR 10 rfl
   have h3:=yh X 10 rfl uV 3 rfl
   have h9:=yh X 10 rfl uV 9 rfl
   have Y:=yh X 3 rfl h3 2 rfl
   have N:=yh X 2 rfl Y 1 rfl
   have h0:=yh X 1 rfl N 0 rfl
   have h8:=yh X 9 rfl h9 8 rfl
   have h7:=yh X 8 rfl h8 7 rfl
   have h6:=yh X 7 rfl h7 6 rfl
   have h5:=yh X 6 rfl h6 5 rfl
   have h4:=yh X 5 rfl h5 4 rfl
   have vK:∀ j,j ≠ 15→j < 17→xx[j]? = some true:=fun j hj0 V=>by
    rcases (by omega:j = 0 ∨ j = 1 ∨ j = 2 ∨ j = 3 ∨ j = 4 ∨ j = 5 ∨ j = 6 ∨ j = 7 ∨ j = 8 ∨ j = 9 ∨ j = 10 ∨ j = 11 ∨ j = 12 ∨ j = 13 ∨ j = 14 ∨ j = 16) with rfl | rfl | rfl | rfl | rfl | rfl | rfl | rfl | rfl | rfl | rfl | rfl | rfl | rfl | rfl | rfl <;> assumption
   rw [vK i xD xJ] at xr; cases xr
  clear X
  have xE:=H xl
  have HD:=H hD
  have qC:=H (zh (U HRW) xl yb)
  have xm:∀ (p:Addr) u,xo.cell? p = some u→hj.cell? p = some u:=fun p u hu=>(xl.cell (yL xo _ hu)).trans hu
  match i,Z with
  | 0,Z | 4,Z =>
   obtain rfl:=yc Z
   clear D hD xl xm
   rw [if_pos (by rfl)];unfold Oper.wp;go_simp
   exact ⟨upd f _ (J G 0),by simp [upd],zg (U xE) (U HD) (by decide) ⟨fun h=>absurd h (by decide),fun h=>absurd h (by decide),fun h=>absurd h (by decide),yj rfl⟩⟩
  | 1,Z =>
   obtain rfl:=yc Z
   have g0:=(hD 0 (yf D 0 rfl)).2.2.2 _ rfl
   clear D hD xl xm
   rw [if_pos (by rfl)];unfold Oper.wp;go_simp
   exact ⟨upd f 1 (J G 0),by simp [upd,g0],zg (U xE) (U HD) (by decide) ⟨fun h=>absurd h (by decide),fun h=>absurd h (by decide),fun h=>absurd h (by decide),yj rfl⟩⟩
  | 2,Z =>
   obtain rfl:=yc Z
   have g1:=(hD 1 (yf D 1 rfl)).2.2.2 _ rfl
   clear D hD xl xm
   rw [if_pos (by rfl)];unfold Oper.wp;go_simp
   exact ⟨upd f 2 (J G 1),by simp [upd,g1],zg (U xE) (U HD) (by decide) ⟨fun h=>absurd h (by decide),fun h=>absurd h (by decide),fun h=>absurd h (by decide),yj rfl⟩⟩
  | 3,Z =>
   obtain rfl:=yc Z
   have g2:=(hD 2 (yf D 2 rfl)).2.2.2 _ rfl
   have z1:=xm (Q G 1) _ (U HC1)
   have z2:=xm (Q G 2) _ (U HC2)
   clear D hD xl xm
   rw [if_pos (by rfl)];unfold Oper.wp;go_simp
   exact ⟨upd f 3 (.agg #[I nx,vq]),by simp [upd,g2],zg (U xE) (U HD) (by decide) ⟨fun h=>absurd h (by decide),fun h=>absurd h (by decide),fun h=>absurd h (by decide),yj rfl⟩⟩
  | 5,Z =>
   obtain rfl:=yc Z
   have g4:=(hD 4 (yf D 4 rfl)).2.2.2 _ rfl
   clear D hD xl xm
   rw [if_pos (by rfl)];unfold Oper.wp;go_simp
   exact ⟨upd f 5 (J G 0),by simp [upd,g4],zg (U xE) (U HD) (by decide) ⟨fun h=>absurd h (by decide),fun h=>absurd h (by decide),fun h=>absurd h (by decide),yj rfl⟩⟩
  | 6,Z =>
   obtain rfl:=yc Z
   have g5:=(hD 5 (yf D 5 rfl)).2.2.2 _ rfl
   clear D hD xl xm
   rw [if_pos (by rfl)];unfold Oper.wp;go_simp
   exact ⟨upd f 6 (J G 4),by simp [upd,g5],zg (U xE) (U HD) (by decide) ⟨fun h=>absurd h (by decide),fun h=>absurd h (by decide),fun h=>absurd h (by decide),yj rfl⟩⟩
  | 7,Z =>
   obtain rfl:=yc Z
   have g6:=(hD 6 (yf D 6 rfl)).2.2.2 _ rfl
   clear D hD xl xm
   rw [if_pos (by rfl)];unfold Oper.wp;go_simp
   exact ⟨upd f 7 (J G 4),by simp [upd,g6],zg (U xE) (U HD) (by decide) ⟨fun h=>absurd h (by decide),fun h=>absurd h (by decide),fun h=>absurd h (by decide),yj rfl⟩⟩
  | 8,Z =>
   obtain rfl:=yc Z
   have g7:=(hD 7 (yf D 7 rfl)).2.2.2 _ rfl
   have z4:=xm (Q G 4) _ (U HC4)
   clear D hD xl xm
   rw [if_pos (by rfl)];unfold Oper.wp;go_simp
   exact ⟨upd f 8 (I A),by simp [upd,g7],zg (U xE) (U HD) (by decide) ⟨fun h=>absurd h (by decide),fun h=>absurd h (by decide),fun h=>absurd h (by decide),yj rfl⟩⟩
  | 9,Z =>
   obtain rfl:=yc Z
   have g8:=(hD 8 (yf D 8 rfl)).2.2.2 _ rfl
   clear D hD xl xm
   rw [if_pos (by rfl)];unfold Oper.wp;go_simp
   refine (otherSide_any A hj).mono ?_
   rw [U HSD]
   rintro e w4 ⟨rfl,rfl⟩
   exact ⟨upd f 9 (I sd),by simp [upd,g8],zg (U xE) (U HD) (by decide) ⟨fun h=>absurd h (by decide),fun h=>absurd h (by decide),fun h=>absurd h (by decide),yj rfl⟩⟩
  | 10,Z =>
   obtain rfl:=yc Z
   have g3:=(hD 3 (yf D 3 rfl)).2.2.2 _ rfl
   have g9:=(hD 9 (yf D 9 rfl)).2.2.2 _ rfl
   have jp:=kH (by omega) (by omega)
   clear D hD xl xm
   rw [if_pos (by rfl)];unfold Oper.wp;go_simp
   by_cases uS:sd = 1
   ·subst uS
    refine (eP nx _ l hj (U qC) (U qK).len (U HLB)).mono ?_
    rintro e w4 ⟨b,rfl,ht,qj,xy⟩
    exact ⟨upd f 10 (bE b),by simp [upd,g3,g9],bc (U xE) (U HD) xy (by decide) (dtk_grow jp xy) ⟨fun _ _=>.inl ⟨rfl,b,rfl,ht⟩,fun h=>absurd h (by decide),fun h=>absurd h (by decide),fun u hu=>by cases hu⟩⟩
   ·skip
    refine (ez nx sd uS _ l hj (U qC) (U qK).len (U HLB)).mono ?_
    rintro e w4 ⟨b,rfl,ht,qj,xy⟩
    exact ⟨upd f 10 (bF b),by simp [upd,g3,g9],bc (U xE) (U HD) xy (by decide) (dtk_grow jp xy) ⟨fun _ _=>.inr ⟨uS,b,rfl,ht⟩,fun h=>absurd h (by decide),fun h=>absurd h (by decide),fun u hu=>by cases hu⟩⟩
  | 11,Z =>
   obtain rfl:=yc Z
   have jp:=kH (by omega) (by omega)
   rcases (hD 10 (yf D 10 rfl)).1 rfl jp with ⟨uS,b,qn,ht⟩ | ⟨uS,b,qn,ht⟩
   ·subst uS
    have HT:=H ht
    have hfl:=field0_bm b hj
    clear D hD xl xm ht
    rw [if_pos (by rfl)];unfold Oper.wp;go_simp
    exact ⟨upd f 11 (.func (.func 166) #[J b 0] #[]),by simp [upd,qn],zg (U xE) (U HD) (by decide) ⟨fun h=>absurd h (by decide),fun _ _=>.inl ⟨rfl,b,rfl,U HT⟩,fun h=>absurd h (by decide),fun u hu=>by cases hu⟩⟩
   ·skip
    have HT:=H ht
    have hfl:=field0_sm b hj
    clear D hD xl xm ht
    rw [if_pos (by rfl)];unfold Oper.wp;go_simp
    exact ⟨upd f 11 (.func (.func 170) #[J b 0] #[]),by simp [upd,qn],zg (U xE) (U HD) (by decide) ⟨fun h=>absurd h (by decide),fun _ _=>.inr ⟨uS,b,rfl,U HT⟩,fun h=>absurd h (by decide),fun u hu=>by cases hu⟩⟩
  | 12,Z =>
   obtain rfl:=yc Z
   have jp:=kH (by omega) (by omega)
   rcases (hD 11 (yf D 11 rfl)).2.1 rfl jp with ⟨uS,b,vE,ht⟩ | ⟨uS,b,vE,ht⟩
   ·subst uS
    have HT:=H ht
    have HE:Hid (frOf (quOf true (zt l 1)) = .tuple #[.agg (yx x.id x.side x.ticks x.left x.life x.tag).toArray,.bool fb]):=by show _ = _; have:=U HFR; simpa using this
    clear D hD xl xm ht
    rw [if_pos (by rfl)];unfold Oper.wp;go_simp
    refine (front_b b 1 (zt l 1) hj (U HT) (yO (List.length_filter_le _ _) (U qK).len)).mono ?_
    rw [U HE]
    rintro e w4 ⟨rfl,xy⟩
    exact ⟨upd f 12 (.tuple #[.agg (yx x.id x.side x.ticks x.left x.life x.tag).toArray,.bool fb]),by simp [upd,vE],bc (U xE) (U HD) xy (by decide) (dtk_grow jp xy) ⟨fun h=>absurd h (by decide),fun h=>absurd h (by decide),fun h=>absurd h (by decide),yj rfl⟩⟩
   ·skip
    have HT:=H ht
    have HE:Hid (frOf (quOf false (zt l sd)) = .tuple #[.agg (yx x.id x.side x.ticks x.left x.life x.tag).toArray,.bool fb]):=by show _ = _; have:=U HFR; rw [decide_eq_false uS] at this; exact this
    clear D hD xl xm ht
    rw [if_pos (by rfl)];unfold Oper.wp;go_simp
    refine (front_s b sd (zt l sd) hj (U HT) (yO (List.length_filter_le _ _) (U qK).len)).mono ?_
    rw [U HE]
    rintro e w4 ⟨rfl,xy⟩
    exact ⟨upd f 12 (.tuple #[.agg (yx x.id x.side x.ticks x.left x.life x.tag).toArray,.bool fb]),by simp [upd,vE],bc (U xE) (U HD) xy (by decide) (dtk_grow jp xy) ⟨fun h=>absurd h (by decide),fun h=>absurd h (by decide),fun h=>absurd h (by decide),yj rfl⟩⟩
  | 13,Z =>
   obtain rfl:=yc Z
   have ua:=(hD 12 (yf D 12 rfl)).2.2.2 _ rfl
   clear D hD xl xm
   rw [if_pos (by rfl)];unfold Oper.wp;go_simp
   exact ⟨upd f 13 (.tuple #[.agg (yx x.id x.side x.ticks x.left x.life x.tag).toArray,.bool fb]),by simp [upd,ua],zg (U xE) (U HD) (by decide) ⟨fun h=>absurd h (by decide),fun h=>absurd h (by decide),fun h=>absurd h (by decide),yj rfl⟩⟩
  | 14,Z =>
   obtain rfl:=yc Z
   have qI:=(hD 13 (yf D 13 rfl)).2.2.2 _ rfl
   clear D hD xl xm
   rw [if_pos (by rfl)];unfold Oper.wp;go_simp
   exact ⟨upd f 14 (.agg (yx x.id x.side x.ticks x.left x.life x.tag).toArray),by simp [upd,qI],zg (U xE) (U HD) (by decide) ⟨fun h=>absurd h (by decide),fun h=>absurd h (by decide),fun h=>absurd h (by decide),yj rfl⟩⟩
  | 15,Z =>
   obtain rfl:=yc Z
   have qI:=(hD 13 (yf D 13 rfl)).2.2.2 _ rfl
   clear D hD xl xm
   rw [if_pos (by rfl)];unfold Oper.wp;go_simp
   exact ⟨upd f 15 (.bool fb),by simp [upd,qI],zg (U xE) (U HD) (by decide) ⟨fun h=>absurd h (by decide),fun h=>absurd h (by decide),fun h=>absurd h (by decide),yj rfl⟩⟩
  | 16,Z =>
   obtain rfl:=yc Z
   have jp:=kH (by omega) (by omega)
   clear D hD xl xm
   rw [if_pos (by rfl)];unfold Oper.wp;go_simp
   have xy:=fw hj (L (yx 0 0 0 0 0 ⟨#[]⟩).toArray 78)
   exact ⟨upd f 16 (J hj.heap.size 0),by simp [upd],bc (U xE) (U HD) xy (by decide) (dtk_grow jp xy) ⟨fun h=>absurd h (by decide),fun h=>absurd h (by decide),fun _=>⟨hj.heap.size,rfl,(U xE).size,fun _=>⟨zY hj (yx 0 0 0 0 0 ⟨#[]⟩) _,by rw [zj]; omega⟩,fun h=>absurd h jp⟩,fun u hu=>by cases hu⟩⟩
  | 17,Z =>
   obtain rfl:=yc Z
   have jp:¬ xx[17]? = some true:=by rw [xr]; simp
   have je:=(hD 14 (yf D 14 rfl)).2.2.2 _ rfl
   obtain ⟨pb,g16,hpb,xZ,-⟩:=(hD 16 (yf D 16 rfl)).2.2.1 rfl
   obtain ⟨xZ,pY⟩:=xZ jp
   have HTH:=H xZ
   obtain ⟨u0,y0,q0⟩:=zG xZ 0 (by omega)
   obtain ⟨u1,y1,q1⟩:=zG xZ 1 (by omega)
   obtain ⟨u2,y2,q2⟩:=zG xZ 2 (by omega)
   obtain ⟨u3,y3,q3⟩:=zG xZ 3 (by omega)
   obtain ⟨u4,y4,q4⟩:=zG xZ 4 (by omega)
   obtain ⟨u5,y5,q5⟩:=zG xZ 5 (by omega)
   simp only [Nat.zero_add] at y0 q0 y1 q1 y2 q2 y3 q3 y4 q4 y5 q5
   clear xZ
   clear D hD xl xm
   rw [if_pos (by rfl)];unfold Oper.wp;go_simp
   refine ⟨upd f 17 M,by simp [upd,je,g16],rgx_last (zi pb hpb (yx x.id x.side x.ticks x.left x.life x.tag) 0 hj (U xE)) (U HD) xr (fun j V hxj h=>dtk_last j h (fun hj16=>?_)) ⟨fun h=>absurd h (by decide),fun h=>absurd h (by decide),fun h=>absurd h (by decide),fun u hu=>by cases hu⟩⟩
   rw [hj16]
   refine ⟨pb,g16,hpb,fun h=>absurd trivial h,fun _=>⟨?_,?_⟩⟩
   ·exact yY hj pb 0 (yx x.id x.side x.ticks x.left x.life x.tag) (fun j V=>U HTH j V)
   ·show pb < (hj.setCells pb 0 (yx x.id x.side x.ticks x.left x.life x.tag)).heap.size
    simp only [World.setCells,World.setCell,Array.size_modify]; exact pY
  | 18,Z =>
   obtain rfl:=yc Z
   have g15:=(hD 15 (yf D 15 rfl)).2.2.2 _ rfl
   clear D hD xl xm
   rw [if_pos (by rfl)];unfold Oper.wp;go_simp
   exact ⟨upd f 18 (.bool fb),by simp [upd,g15],zg (U xE) (U HD) (by decide) ⟨fun h=>absurd h (by decide),fun h=>absurd h (by decide),fun h=>absurd h (by decide),yj rfl⟩⟩
  | i + 19,Z=>simp at Z
theorem due_any {G B r:Nat} {vq:Value} {g:Gr} (w:World) (h:GS G B r w vq g) (hi:GI g):Calls Tryz.prog 32 #[J G 0] w fun e w'=>e = .returned (duV (dueG g))∧yp w w':=by
 have hsf:=sfl
 have hG:=h.lt
 obtain ⟨xz,HX⟩:=fE w [I 0,I 0,I 0,I 0,I 0] 29
 have HS:Hid ((w.alloc (L #[I 0,I 0,I 0,I 0,I 0] 29)).heap.size = w.heap.size + 1):=by show _ = _; simp
 have HG:=H (zy h xz)
 have HB:=H xz
 have HI:=H hi
 clear h xz hi
 go_enter Tryz.func32,Tryz.ntmps32
 refine fD fun zb HK=>?_
 go_wp2_with fail
 refine U HK _ _ ?_
 clear HK
 generalize (w.alloc (L #[I 0,I 0,I 0,I 0,I 0] 29)) = W1 at HX HS HG HB ⊢
 have c3:W1.cell? (Q G 3) = some (I g.bg):=K (U HG).box 3 rfl
 by_cases N:g.bg = 1
 ·have HQ:Hid (duV (dueG g) = duV (takD g.l g.cm g.tk)):=by show _ = _; unfold dueG; rw [if_pos N]
  have b1:(g.bg == 1) = true:=by simpa using N
  clear N
  go_wp2_with fail
  refine (takerDue_any W1 (U HG) (U HI).l0 (fun h0=>(U HI).good (.inr h0))).mono ?_
  rintro e w2 ⟨rfl,xL⟩
  have xI:=H (zf (U HX) xL (by have:=U HS; omega))
  have xw:=H (fC (U HB) xL)
  clear xL c3
  generalize hd:takD g.l g.cm g.tk = d at HQ ⊢
  clear hd
  obtain ⟨dk,di,dt,dq,dp⟩:=d
  unfold duV at HQ ⊢
  simp only at HQ ⊢
  have z0:=K (U xI) 0 rfl
  have z1:=K (U xI) 1 rfl
  have z2:=K (U xI) 2 rfl
  have z3:=K (U xI) 3 rfl
  have z4:=K (U xI) 4 rfl
  have f0:=zd (U xI) 0 (by decide)
  have f1:=zd (U xI) 1 (by decide)
  have f2:=zd (U xI) 2 (by decide)
  have f3:=zd (U xI) 3 (by decide)
  have f4:=zd (U xI) 4 (by decide)
  go_wp2_with fail
  try simp (config:={ zetaDelta:=true }) only [Exit.noGoto_ret]
  change bodyPost _ _ _ _ _ (World.setCells w2 w.heap.size 0 [I dk,I di,I dt,I dq,I dp])
  have xp:Hid ((World.setCells w2 w.heap.size 0 [I dk,I di,I dt,I dq,I dp]).rangeAt w.heap.size 0 [I dk,I di,I dt,I dq,I dp]∧yp w (World.setCells w2 w.heap.size 0 [I dk,I di,I dt,I dq,I dp])):=⟨(zw (U xI) (by simp only [List.length_cons,List.length_nil])).r,zi w.heap.size (by omega) [I dk,I di,I dt,I dq,I dp] 0 w2 (U xw)⟩
  generalize World.setCells w2 w.heap.size 0 [I dk,I di,I dt,I dq,I dp] = WE at xp ⊢
  obtain ⟨d0,d1,d2,d3,d4⟩:=yC (U xp).1
  try simp only [Exit.inBlock,Exit.then]
  refine bodyPost_ret (by simp [results,Tryz.results32,go_sem,d0,d1,d2,d3,d4]; try rfl) rfl ?_
  exact ⟨congrArg Ending.returned (U HQ).symm,(U xp).2⟩
 ·have b1:(g.bg == 1) = false:=by simpa using N
  by_cases h8:g.bg = 8
  ·have HQ:Hid (duV (dueG g) = duV (dayD g.l)):=by show _ = _; unfold dueG; rw [if_neg N,if_pos h8]
   have b8:(g.bg == 8) = true:=by simpa using h8
   clear N h8
   go_wp2_with fail
   refine (dayDue_any W1 (U HG) (yO (U HI).len (by decide))).mono ?_
   rintro e w2 ⟨rfl,xL⟩
   have xI:=H (zf (U HX) xL (by have:=U HS; omega))
   have xw:=H (fC (U HB) xL)
   clear xL c3
   generalize hd:dayD g.l = d at HQ ⊢
   clear hd
   obtain ⟨dk,di,dt,dq,dp⟩:=d
   unfold duV at HQ ⊢
   simp only at HQ ⊢
   have z0:=K (U xI) 0 rfl
   have z1:=K (U xI) 1 rfl
   have z2:=K (U xI) 2 rfl
   have z3:=K (U xI) 3 rfl
   have z4:=K (U xI) 4 rfl
   have f0:=zd (U xI) 0 (by decide)
   have f1:=zd (U xI) 1 (by decide)
   have f2:=zd (U xI) 2 (by decide)
   have f3:=zd (U xI) 3 (by decide)
   have f4:=zd (U xI) 4 (by decide)
   go_wp2_with fail
   try simp (config:={ zetaDelta:=true }) only [Exit.noGoto_ret]
   change bodyPost _ _ _ _ _ (World.setCells w2 w.heap.size 0 [I dk,I di,I dt,I dq,I dp])
   have xp:Hid ((World.setCells w2 w.heap.size 0 [I dk,I di,I dt,I dq,I dp]).rangeAt w.heap.size 0 [I dk,I di,I dt,I dq,I dp]∧yp w (World.setCells w2 w.heap.size 0 [I dk,I di,I dt,I dq,I dp])):=⟨(zw (U xI) (by simp only [List.length_cons,List.length_nil])).r,zi w.heap.size (by omega) [I dk,I di,I dt,I dq,I dp] 0 w2 (U xw)⟩
   generalize World.setCells w2 w.heap.size 0 [I dk,I di,I dt,I dq,I dp] = WE at xp ⊢
   obtain ⟨d0,d1,d2,d3,d4⟩:=yC (U xp).1
   try simp only [Exit.inBlock,Exit.then]
   refine bodyPost_ret (by simp [results,Tryz.results32,go_sem,d0,d1,d2,d3,d4]; try rfl) rfl ?_
   exact ⟨congrArg Ending.returned (U HQ).symm,(U xp).2⟩
  ·have HQ:Hid (dueG g = zDu):=by show _ = _; unfold dueG; rw [if_neg N,if_neg h8]
   have b8:(g.bg == 8) = false:=by simpa using h8
   clear N h8
   have z0:=K (U HX) 0 rfl
   have z1:=K (U HX) 1 rfl
   have z2:=K (U HX) 2 rfl
   have z3:=K (U HX) 3 rfl
   have z4:=K (U HX) 4 rfl
   have f0:=zd (U HX) 0 (by decide)
   have f1:=zd (U HX) 1 (by decide)
   have f2:=zd (U HX) 2 (by decide)
   have f3:=zd (U HX) 3 (by decide)
   have f4:=zd (U HX) 4 (by decide)
   go_wp2_with fail
   try simp (config:={ zetaDelta:=true }) only [Exit.noGoto_ret]
   change bodyPost _ _ _ _ _ (World.setCells W1 w.heap.size 0 [I 0,I 0,I 0,I 0,I 0])
   have xp:Hid ((World.setCells W1 w.heap.size 0 [I 0,I 0,I 0,I 0,I 0]).rangeAt w.heap.size 0 [I 0,I 0,I 0,I 0,I 0]∧yp w (World.setCells W1 w.heap.size 0 [I 0,I 0,I 0,I 0,I 0])):=⟨(zw (U HX) (by simp only [List.length_cons,List.length_nil])).r,zi w.heap.size (by omega) [I 0,I 0,I 0,I 0,I 0] 0 W1 (U HB)⟩
   generalize World.setCells W1 w.heap.size 0 [I 0,I 0,I 0,I 0,I 0] = WE at xp ⊢
   obtain ⟨d0,d1,d2,d3,d4⟩:=yC (U xp).1
   try simp only [Exit.inBlock,Exit.then]
   refine bodyPost_ret (by simp [results,Tryz.results32,go_sem,d0,d1,d2,d3,d4]; try rfl) rfl ?_
   exact ⟨by rw [U HQ]; rfl,(U xp).2⟩
end Go.Proofs.YtnphbkgfjanmgaaGreatDoor
