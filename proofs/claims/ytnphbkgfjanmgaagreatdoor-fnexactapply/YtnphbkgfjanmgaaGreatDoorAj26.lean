/-
  What is due of a taker, by the program: proved by walking the method.
-/
import Derived.Test.YtnphbkgfjanmgaaGreatDoorAj25
set_option linter.unusedVariables false
set_option maxHeartbeats 6400000
set_option maxRecDepth 100000
namespace Go.Proofs.YtnphbkgfjanmgaaGreatDoor
open Go.RowKit
def DTk (vs:List (Option Value)) (base:World) (l:List Od) (sd:Int) (x:Od) (p:Prop) (cl:World) (j:Nat) (v:Value):Prop :=
 (j = 10→¬ p→SdV cl v l sd)∧(j = 11→¬ p→FrV cl v l sd)∧(j = 16→∃ pb,v = J pb 0∧base.heap.size ≤ pb∧(¬ p→cl.there pb 0 6∧pb < cl.heap.size)∧(p→cl.rangeAt pb 0 x.vs∧pb < cl.heap.size))∧∀ u,vs[j]? = some (some u)→v = u
section
variable {vs:List (Option Value)} {base cl V':World} {l:List Od} {sd:Int} {x:Od} {p:Prop}
theorem dtk_grow (hp:¬ p) (Q:yp cl V'):∀ j v,DTk vs base l sd x p cl j v→DTk vs base l sd x p V' j v:=by
 rintro j v ⟨N,Y,h3,h4⟩
 refine ⟨fun X hp=>?_,fun X hp=>?_,fun X=>?_,h4⟩
 ·rcases N X hp with ⟨N,b,Y,h3⟩ | ⟨N,b,Y,h3⟩
  ·exact .inl ⟨N,b,Y,zw h3 (Q.block _ (zJ h3))⟩
  ·exact .inr ⟨N,b,Y,zw h3 (Q.block _ (zJ h3))⟩
 ·rcases Y X hp with ⟨N,b,Y,h3⟩ | ⟨N,b,Y,h3⟩
  ·exact .inl ⟨N,b,Y,zw h3 (Q.block _ (zJ h3))⟩
  ·exact .inr ⟨N,b,Y,zw h3 (Q.block _ (zJ h3))⟩
 ·obtain ⟨pb,h5,h6,h7,h8⟩:=h3 X
  refine ⟨pb,h5,h6,fun hp=>?_,fun h=>absurd h hp⟩
  obtain ⟨h9,uY⟩:=h7 hp
  exact ⟨zm h9 Q uY,yK uY Q.size⟩
theorem dtk_last {v:Value}:∀ j,DTk vs base l sd x False cl j v→(j = 16→∃ pb,v = J pb 0∧base.heap.size ≤ pb∧(¬ True→V'.there pb 0 6∧pb < V'.heap.size)∧(True→V'.rangeAt pb 0 x.vs∧pb < V'.heap.size))→DTk vs base l sd x True V' j v :=
 fun j h h16=>⟨fun _ hp=>absurd trivial hp,fun _ hp=>absurd trivial hp,h16,h.2.2.2⟩
end
theorem takerDue_any {G B r:Nat} {vq:Value} {g:Gr} (w:World) (h:GS G B r w vq g) (jS:0 ≤ g.tk.left) (hg:g.tk.left ≠ 0→GoodL g.l):Calls Tryz.prog 59 #[J G 0] w fun e w'=>e = .returned (duV (takD g.l g.cm g.tk))∧yp w w':=by
 have hsf:=sfl
 have hG:=h.lt
 obtain ⟨xC,HX⟩:=gw w [I 0,I 0,I 0,I 0,I 0] 29
 have HS:Hid ((w.alloc (A #[I 0,I 0,I 0,I 0,I 0] 29)).heap.size = w.heap.size + 1):=by show _ = _; simp
 have HG:=H (zA h xC)
 have HB:=H xC
 clear h xC
 obtain ⟨nx,l,bg,⟨ck,L,ct,V,cq,ci,O,cg⟩,⟨ti,oo,tt,tl,om,tg⟩⟩:=g
 simp only at jS hg ⊢
 go_enter Tryz.func59,Tryz.ntmps59
 refine gv fun hR HK=>?_
 go_wp2_with fail
 refine U HK _ _ ?_
 clear HK
 generalize (w.alloc (A #[I 0,I 0,I 0,I 0,I 0] 29)) = W1 at HX HS HG HB ⊢
 have c10:W1.cell? (D G 10) = some (I ti):=R (U HG).box 10 rfl
 have c13:W1.cell? (D G 13) = some (I tl):=R (U HG).box 13 rfl
 go_wp2_with fail
 go_quiet (fail)
 have qN:Hid (Bx (W1.drewN nq) w.heap.size [I 0,I 0,I 0,I 0,I 0]):=dO (U HX) nq
 have HGG:Hid (GS G B r (W1.drewN nq) vq ⟨nx,l,bg,⟨ck,L,ct,V,cq,ci,O,cg⟩,⟨ti,oo,tt,tl,om,tg⟩⟩):=zA (U HG) ⟨rfl,rfl,rfl,Nat.le_refl _,fun _ _=>rfl⟩
 have HBB:Hid (yp w (W1.drewN nq)):=zX (U HB) nq
 have jL:Hid ((W1.drewN nq).heap.size = w.heap.size + 1):=U HS
 clear HX HG HB HS c10 c13
 generalize W1.drewN nq = hj at qN HGG HBB jL ⊢
 by_cases h0:tl = 0
 ·have HD:Hid (takD l ⟨ck,L,ct,V,cq,ci,O,cg⟩ ⟨ti,oo,tt,tl,om,tg⟩ = zDu):=by show _ = _; unfold takD; rw [if_pos h0]
  have b0:(tl == 0) = true:=by simpa using h0
  clear h0
  have z0:=R (U qN) 0 rfl
  have z1:=R (U qN) 1 rfl
  have z2:=R (U qN) 2 rfl
  have z3:=R (U qN) 3 rfl
  have z4:=R (U qN) 4 rfl
  have f0:=zd (U qN) 0 (by decide)
  have f1:=zd (U qN) 1 (by decide)
  have f2:=zd (U qN) 2 (by decide)
  have f3:=zd (U qN) 3 (by decide)
  have f4:=zd (U qN) 4 (by decide)
  go_wp2_with fail
  try simp (config:={ zetaDelta:=true }) only [Exit.noGoto_ret]
  change bodyPost _ _ _ _ _ (World.setCells hj w.heap.size 0 [I 0,I 0,I 0,I 0,I 0])
  have xp:Hid ((World.setCells hj w.heap.size 0 [I 0,I 0,I 0,I 0,I 0]).rangeAt w.heap.size 0 [I 0,I 0,I 0,I 0,I 0]∧yp w (World.setCells hj w.heap.size 0 [I 0,I 0,I 0,I 0,I 0])):=⟨(zu (U qN) (by simp only [List.length_cons,List.length_nil])).r,zh w.heap.size yb [I 0,I 0,I 0,I 0,I 0] 0 hj (U HBB)⟩
  generalize World.setCells hj w.heap.size 0 [I 0,I 0,I 0,I 0,I 0] = WE at xp ⊢
  obtain ⟨d0,d1,d2,d3,d4⟩:=yC (U xp).1
  try simp only [Exit.inBlock,Exit.then]
  refine bodyPost_ret (by simp [results,Tryz.results59,go_sem,d0,d1,d2,d3,d4]; try rfl) rfl ?_
  exact ⟨by rw [U HD]; rfl,(U xp).2⟩
 have qR:=H (hg h0)
 have b0:(tl == 0) = false:=by simpa using h0
 have HLB:Hid (∀ o' ∈ l,0 ≤ o'.left∧o'.left ≤ 1000000):=fun o' vO=>by have:=(U qR).left o' vO; omega
 have HRW:=H (zI (U HGG).row (yO (U qR).len (by decide)))
 generalize uV:othS L = sd
 have HSD:=H uV
 generalize hq:quOf (decide (sd = 1)) (zv l sd) = q
 have ku:=frOf_eq q
 generalize hx:hdO q = x at ku
 generalize oZ:hdF q = fb at ku
 have HFR:Hid (frOf (quOf (decide (sd = 1)) (zv l sd)) = .tuple #[.agg (yx x.id x.side x.ticks x.left x.life x.tag).toArray,.bool fb]):=by show _ = _; rw [hq]; exact ku
 have HFO:Hid (bB l (othS L) = if fb = true then some x else none):=by
  show _ = _
  rw [bB,uV,hq,← hx,← oZ,hdO,hdF]
  cases q.head? <;> rfl
 clear uV hq ku hx oZ q hg
 have HC1:Hid (hj.cell? (D G 1) = some (I nx)):=R (U HGG).box 1 rfl
 have HC2:Hid (hj.cell? (D G 2) = some vq):=R (U HGG).box 2 rfl
 have HC4:Hid (hj.cell? (D G 4) = some (I L)):=R (U HGG).box 4 rfl
 go_wp2_with fail
 refine zn (RG hj (fun f=>{ tmps:=#[J G 0,M,J w.heap.size 0,I ti,I tl,f 16,f 18,J G 0,J G 0,J G 10,J G 10,I ti,J G 0,J G 0,J G 10,J G 13,I tl,I tl,.bool false,M,f 13,f 0,f 1,f 2,f 3,f 4,f 5,f 6,f 7,f 8,f 9,f 10,f 11,f 12,f 14,f 15,M,M,M,M,M,M,M,M,M,M,M,M,M,M,M,M,M,M,M,M,M,M,M,M,M,M,M,M,M,M,M,M],defers:=[] }) 17 (DTk [some (J G 0),some (J G 0),some (J G 1),some (.agg #[I nx,vq]),some (J G 0),some (J G 0),some (J G 4),some (J G 4),some (I L),some (I sd),none,none,some (.tuple #[.agg (yx x.id x.side x.ticks x.left x.life x.tag).toArray,.bool fb]),some (.tuple #[.agg (yx x.id x.side x.ticks x.left x.life x.tag).toArray,.bool fb]),some (.agg (yx x.id x.side x.ticks x.left x.life x.tag).toArray),some (.bool fb),none,none,some (.bool fb)] hj l sd x)) (by kernel_rfl) ?_ ?_ ?_
 ·exact ⟨fun _=>M,rfl,⟨rfl,rfl,rfl,Nat.le_refl _,fun _ _=>rfl⟩,fun j X=>by rw [yJ] at X; split at X <;> simp at X⟩
 ·rintro xx gs cl ⟨f,rfl,xl,hD⟩ hx xO
  have xq:=cP xO hx (by kernel_rfl)
  have pC:xx[17]? = some true:=xq 17 (by simp)
  have g18:f 18 = .bool fb:=(hD 18 (xq 18 (by simp))).2.2.2 _ rfl
  obtain ⟨pb,g16,hpb,-,qF⟩:=(hD 16 (xq 16 (by simp))).2.2.1 rfl
  obtain ⟨hrg,aE⟩:=qF pC
  have vn:=H (zA (U HGG) xl)
  have hss:=U jL
  have qN:=H (zf (U qN) xl (by omega))
  have xN:=H (gu (U HBB) xl)
  have HRG:=H hrg
  dsimp only
  simp only [g18,g16]
  generalize f 0 = v0,f 1 = v1,f 2 = v2,f 3 = v3,f 4 = v4,f 5 = v5,f 6 = v6,f 7 = v7,f 8 = v8,f 9 = v9,f 10 = v10,f 11 = v11,f 12 = v12,f 13 = v13,f 14 = v14,f 15 = v15
  clear hD xq xO hx pC qF xl g16 g18 hrg f xx HC1 HC2 HC4 hss HGG HBB jL
  cases fb
  ·have HFO:Hid (bB l (othS L) = none):=by show _ = _; have:=U HFO; simpa using this
   have HD:Hid (takD l ⟨ck,L,ct,V,cq,ci,O,cg⟩ ⟨ti,oo,tt,tl,om,tg⟩ = lftD ⟨ck,L,ct,V,cq,ci,O,cg⟩ ⟨ti,oo,tt,tl,om,tg⟩):=by show _ = _; unfold takD; rw [if_neg h0]; simp only [U HFO]
   clear h0
   go_wp2_with fail
   go_quiet (fail)
   have uX:Hid (Bx (cl.drewN nq) w.heap.size [I 0,I 0,I 0,I 0,I 0]):=dO (U qN) _
   have uC:Hid (GS G B r (cl.drewN nq) vq ⟨nx,l,bg,⟨ck,L,ct,V,cq,ci,O,cg⟩,⟨ti,oo,tt,tl,om,tg⟩⟩):=zA (U vn) ⟨rfl,rfl,rfl,Nat.le_refl _,fun _ _=>rfl⟩
   have uk:Hid (yp w (cl.drewN nq)):=zX (U xN) _
   have HZ5:Hid (w.heap.size < (cl.drewN nq).heap.size):=yL _ _ (R (U uX) 0 rfl)
   clear qN vn xN
   generalize cl.drewN nq = h2 at uX uC uk HZ5 ⊢
   have c4:=R (U uC).box 4 rfl
   have c5:=R (U uC).box 5 rfl
   have c6:=R (U uC).box 6 rfl
   have c7:=R (U uC).box 7 rfl
   have c8:=R (U uC).box 8 rfl
   have c9:=R (U uC).box 9 rfl
   go_wp2_with fail
   refine (eD ⟨ck,L,ct,V,cq,ci,O,cg⟩ h2).mono ?_
   rintro e w5 ⟨rfl,ui⟩
   have vA:=H (zf (U uX) ui (by have:=U HZ5; omega))
   have qH:=H (gu (U uk) ui)
   clear ui c4 c5 c6 c7 c8 c9 uX uk uC
   have z0:=R (U vA) 0 rfl
   have z1:=R (U vA) 1 rfl
   have z2:=R (U vA) 2 rfl
   have z3:=R (U vA) 3 rfl
   have z4:=R (U vA) 4 rfl
   have f0:=zd (U vA) 0 (by decide)
   have f1:=zd (U vA) 1 (by decide)
   have f2:=zd (U vA) 2 (by decide)
   have f3:=zd (U vA) 3 (by decide)
   have f4:=zd (U vA) 4 (by decide)
   have HQ:Hid (lftD ⟨ck,L,ct,V,cq,ci,O,cg⟩ ⟨ti,oo,tt,tl,om,tg⟩ = if bG ct = true then ⟨4,ti,0,tl,0⟩ else ⟨5,ti,0,tl,0⟩):=rfl
   cases jq:bG ct
   ·have HQ2:Hid (lftD ⟨ck,L,ct,V,cq,ci,O,cg⟩ ⟨ti,oo,tt,tl,om,tg⟩ = ⟨5,ti,0,tl,0⟩):=by show _ = _; rw [U HQ,jq]; rfl
    clear jq HQ
    go_wp2_with fail
    try simp (config:={ zetaDelta:=true }) only [Exit.noGoto_ret]
    change bodyPost _ _ _ _ _ (World.setCells w5 w.heap.size 0 [I 5,I ti,I 0,I tl,I 0])
    have xp:Hid ((World.setCells w5 w.heap.size 0 [I 5,I ti,I 0,I tl,I 0]).rangeAt w.heap.size 0 [I 5,I ti,I 0,I tl,I 0]∧yp w (World.setCells w5 w.heap.size 0 [I 5,I ti,I 0,I tl,I 0])):=⟨(zu (U vA) (by simp only [List.length_cons,List.length_nil])).r,zh w.heap.size yb [I 5,I ti,I 0,I tl,I 0] 0 w5 (U qH)⟩
    generalize World.setCells w5 w.heap.size 0 [I 5,I ti,I 0,I tl,I 0] = WE at xp ⊢
    obtain ⟨d0,d1,d2,d3,d4⟩:=yC (U xp).1
    try simp only [Exit.inBlock,Exit.then]
    refine bodyPost_ret (by simp [results,Tryz.results59,go_sem,d0,d1,d2,d3,d4]; try rfl) rfl ?_
    exact ⟨by rw [U HD,U HQ2]; rfl,(U xp).2⟩
   ·have HQ2:Hid (lftD ⟨ck,L,ct,V,cq,ci,O,cg⟩ ⟨ti,oo,tt,tl,om,tg⟩ = ⟨4,ti,0,tl,0⟩):=by show _ = _; rw [U HQ,jq]; rfl
    clear jq HQ
    go_wp2_with fail
    try simp (config:={ zetaDelta:=true }) only [Exit.noGoto_ret]
    change bodyPost _ _ _ _ _ (World.setCells w5 w.heap.size 0 [I 4,I ti,I 0,I tl,I 0])
    have xp:Hid ((World.setCells w5 w.heap.size 0 [I 4,I ti,I 0,I tl,I 0]).rangeAt w.heap.size 0 [I 4,I ti,I 0,I tl,I 0]∧yp w (World.setCells w5 w.heap.size 0 [I 4,I ti,I 0,I tl,I 0])):=⟨(zu (U vA) (by simp only [List.length_cons,List.length_nil])).r,zh w.heap.size yb [I 4,I ti,I 0,I tl,I 0] 0 w5 (U qH)⟩
    generalize World.setCells w5 w.heap.size 0 [I 4,I ti,I 0,I tl,I 0] = WE at xp ⊢
    obtain ⟨d0,d1,d2,d3,d4⟩:=yC (U xp).1
    try simp only [Exit.inBlock,Exit.then]
    refine bodyPost_ret (by simp [results,Tryz.results59,go_sem,d0,d1,d2,d3,d4]; try rfl) rfl ?_
    exact ⟨by rw [U HD,U HQ2]; rfl,(U xp).2⟩
  ·have HFS:Hid (bB l (othS L) = some x):=by show _ = _; have:=U HFO; simpa using this
   have uw:Hid (GS G B r cl.drew vq ⟨nx,l,bg,⟨ck,L,ct,V,cq,ci,O,cg⟩,⟨ti,oo,tt,tl,om,tg⟩⟩):=zA (U vn) ⟨rfl,rfl,rfl,Nat.le_refl _,fun _ _=>rfl⟩
   have HRG4:Hid (cl.drew.rangeAt pb 0 x.vs):=U HRG
   have c4:=R (U uw).box 4 rfl
   have c5:=R (U uw).box 5 rfl
   have c6:=R (U uw).box 6 rfl
   have c7:=R (U uw).box 7 rfl
   have c8:=R (U uw).box 8 rfl
   have c9:=R (U uw).box 9 rfl
   obtain ⟨p0,p1,p2,p3,p4,p5⟩:=zB (U HRG4)
   simp only [Nat.zero_add] at p0 p1 p2 p3 p4 p5
   go_wp2_with fail
   refine zF 7 (by kernel_rfl) (by kernel_rfl) ?_
   simp only [yU,List.take_zero,yV,List.drop_zero]
   repeat still_step
   refine wpStill_nil ?_
   go_wp2_with fail
   refine (meets_any ⟨ck,L,ct,V,cq,ci,O,cg⟩ x cl.drew).mono ?_
   rintro e h2 ⟨rfl,ui⟩
   have hzV:w.heap.size < cl.heap.size:=yL _ _ (R (U qN) 0 rfl)
   have uX:=H (zf (zK (U qN)) ui hzV)
   have uC:=H (zA (U uw) ui)
   have uk:Hid (yp w h2):=⟨ui.os.trans (U xN).os,ui.tape.trans (U xN).tape,ui.output.trans (U xN).output,yO (U xN).size ui.size,fun k hk=>(ui.block k (Nat.lt_trans hk hzV)).trans ((U xN).block k hk)⟩
   have HZ5:Hid (w.heap.size < h2.heap.size):=yK hzV ui.size
   obtain ⟨p0,p1,p2,p3,p4,p5⟩:=zB (zc (U HRG4) ui aE)
   simp only [Nat.zero_add] at p0 p1 p2 p3 p4 p5
   clear c4 c5 c6 c7 c8 c9 ui HRG4 uw hzV qN vn xN hsf
   cases hme:bR ⟨ck,L,ct,V,cq,ci,O,cg⟩ x
   ·have HD:Hid (takD l ⟨ck,L,ct,V,cq,ci,O,cg⟩ ⟨ti,oo,tt,tl,om,tg⟩ = lftD ⟨ck,L,ct,V,cq,ci,O,cg⟩ ⟨ti,oo,tt,tl,om,tg⟩):=by show _ = _; unfold takD; rw [if_neg h0]; simp only [U HFS,hme]; rfl
    clear h0 hme p0 p1 p2 p3 p4 p5
    have hsf:=sfl
    have c4:=R (U uC).box 4 rfl
    have c5:=R (U uC).box 5 rfl
    have c6:=R (U uC).box 6 rfl
    have c7:=R (U uC).box 7 rfl
    have c8:=R (U uC).box 8 rfl
    have c9:=R (U uC).box 9 rfl
    go_wp2_with fail
    refine (eD ⟨ck,L,ct,V,cq,ci,O,cg⟩ h2).mono ?_
    rintro e w5 ⟨rfl,ui⟩
    have vA:=H (zf (U uX) ui (by have:=U HZ5; omega))
    have qH:=H (gu (U uk) ui)
    clear ui c4 c5 c6 c7 c8 c9 uX uk uC
    have z0:=R (U vA) 0 rfl
    have z1:=R (U vA) 1 rfl
    have z2:=R (U vA) 2 rfl
    have z3:=R (U vA) 3 rfl
    have z4:=R (U vA) 4 rfl
    have f0:=zd (U vA) 0 (by decide)
    have f1:=zd (U vA) 1 (by decide)
    have f2:=zd (U vA) 2 (by decide)
    have f3:=zd (U vA) 3 (by decide)
    have f4:=zd (U vA) 4 (by decide)
    have HQ:Hid (lftD ⟨ck,L,ct,V,cq,ci,O,cg⟩ ⟨ti,oo,tt,tl,om,tg⟩ = if bG ct = true then ⟨4,ti,0,tl,0⟩ else ⟨5,ti,0,tl,0⟩):=rfl
    cases jq:bG ct
    ·have HQ2:Hid (lftD ⟨ck,L,ct,V,cq,ci,O,cg⟩ ⟨ti,oo,tt,tl,om,tg⟩ = ⟨5,ti,0,tl,0⟩):=by show _ = _; rw [U HQ,jq]; rfl
     clear jq HQ
     go_wp2_with fail
     try simp (config:={ zetaDelta:=true }) only [Exit.noGoto_ret]
     change bodyPost _ _ _ _ _ (World.setCells w5 w.heap.size 0 [I 5,I ti,I 0,I tl,I 0])
     have xp:Hid ((World.setCells w5 w.heap.size 0 [I 5,I ti,I 0,I tl,I 0]).rangeAt w.heap.size 0 [I 5,I ti,I 0,I tl,I 0]∧yp w (World.setCells w5 w.heap.size 0 [I 5,I ti,I 0,I tl,I 0])):=⟨(zu (U vA) (by simp only [List.length_cons,List.length_nil])).r,zh w.heap.size yb [I 5,I ti,I 0,I tl,I 0] 0 w5 (U qH)⟩
     generalize World.setCells w5 w.heap.size 0 [I 5,I ti,I 0,I tl,I 0] = WE at xp ⊢
     obtain ⟨d0,d1,d2,d3,d4⟩:=yC (U xp).1
     try simp only [Exit.inBlock,Exit.then]
     refine bodyPost_ret (by simp [results,Tryz.results59,go_sem,d0,d1,d2,d3,d4]; try rfl) rfl ?_
     exact ⟨by rw [U HD,U HQ2]; rfl,(U xp).2⟩
    ·have HQ2:Hid (lftD ⟨ck,L,ct,V,cq,ci,O,cg⟩ ⟨ti,oo,tt,tl,om,tg⟩ = ⟨4,ti,0,tl,0⟩):=by show _ = _; rw [U HQ,jq]; rfl
     clear jq HQ
     go_wp2_with fail
     try simp (config:={ zetaDelta:=true }) only [Exit.noGoto_ret]
     change bodyPost _ _ _ _ _ (World.setCells w5 w.heap.size 0 [I 4,I ti,I 0,I tl,I 0])
     have xp:Hid ((World.setCells w5 w.heap.size 0 [I 4,I ti,I 0,I tl,I 0]).rangeAt w.heap.size 0 [I 4,I ti,I 0,I tl,I 0]∧yp w (World.setCells w5 w.heap.size 0 [I 4,I ti,I 0,I tl,I 0])):=⟨(zu (U vA) (by simp only [List.length_cons,List.length_nil])).r,zh w.heap.size yb [I 4,I ti,I 0,I tl,I 0] 0 w5 (U qH)⟩
     generalize World.setCells w5 w.heap.size 0 [I 4,I ti,I 0,I tl,I 0] = WE at xp ⊢
     obtain ⟨d0,d1,d2,d3,d4⟩:=yC (U xp).1
     try simp only [Exit.inBlock,Exit.then]
     refine bodyPost_ret (by simp [results,Tryz.results59,go_sem,d0,d1,d2,d3,d4]; try rfl) rfl ?_
     exact ⟨by rw [U HD,U HQ2]; rfl,(U xp).2⟩
   ·have HD:Hid (takD l ⟨ck,L,ct,V,cq,ci,O,cg⟩ ⟨ti,oo,tt,tl,om,tg⟩ = ⟨3,ti,x.id,min tl x.left,x.ticks⟩):=by show _ = _; unfold takD; rw [if_neg h0]; simp only [U HFS,hme]; rfl
    clear h0 hme uC
    generalize hq:min tl x.left = qty at HD
    have hmin:∀ W,(Builtin.min_ #[3,3] 3 #[I tl,I x.left]).run Tryz.prog W = .ok (I qty) W:=fun W=>by
     rw [← hq]
     by_cases qi:tl ≤ x.left
     ·rw [Int.min_eq_left qi]; go_simp; omega
     ·rw [Int.min_eq_right (by omega)]; go_simp
    clear hq
    have z0:=R (U uX) 0 rfl
    have z1:=R (U uX) 1 rfl
    have z2:=R (U uX) 2 rfl
    have z3:=R (U uX) 3 rfl
    have z4:=R (U uX) 4 rfl
    have f0:=zd (U uX) 0 (by decide)
    have f1:=zd (U uX) 1 (by decide)
    have f2:=zd (U uX) 2 (by decide)
    have f3:=zd (U uX) 3 (by decide)
    have f4:=zd (U uX) 4 (by decide)
    go_wp2_with fail
    try simp (config:={ zetaDelta:=true }) only [Exit.noGoto_ret]
    change bodyPost _ _ _ _ _ (World.setCells h2 w.heap.size 0 [I 3,I ti,I x.id,I qty,I x.ticks])
    have xp:Hid ((World.setCells h2 w.heap.size 0 [I 3,I ti,I x.id,I qty,I x.ticks]).rangeAt w.heap.size 0 [I 3,I ti,I x.id,I qty,I x.ticks]∧yp w (World.setCells h2 w.heap.size 0 [I 3,I ti,I x.id,I qty,I x.ticks])):=⟨(zu (U uX) (by simp only [List.length_cons,List.length_nil])).r,zh w.heap.size yb [I 3,I ti,I x.id,I qty,I x.ticks] 0 h2 (U uk)⟩
    generalize World.setCells h2 w.heap.size 0 [I 3,I ti,I x.id,I qty,I x.ticks] = WE at xp ⊢
    obtain ⟨d0,d1,d2,d3,d4⟩:=yC (U xp).1
    try simp only [Exit.inBlock,Exit.then]
    refine bodyPost_ret (by simp [results,Tryz.results59,go_sem,d0,d1,d2,d3,d4]; try rfl) rfl ?_
    exact ⟨by rw [U HD]; rfl,(U xp).2⟩
 ·rintro xx gs cl i op ⟨f,rfl,xl,hD⟩ F hx Z xt E
  have kX:i ≠ 15→i < 17→¬ xx[17]? = some true:=fun xA xI ji=>by
   have h16:=yh F 17 rfl ji 16 rfl
   have oT:=yh F 17 rfl ji 14 rfl
   have jY:=yh F 14 rfl oT 13 rfl
   have uN:=yh F 13 rfl jY 12 rfl
   have uU:=yh F 12 rfl uN 11 rfl
   have uY:=yh F 11 rfl uU 10 rfl
   have h3:=yh F 10 rfl uY 3 rfl
   have h9:=yh F 10 rfl uY 9 rfl
   have Y:=yh F 3 rfl h3 2 rfl
   have N:=yh F 2 rfl Y 1 rfl
   have h0:=yh F 1 rfl N 0 rfl
   have h8:=yh F 9 rfl h9 8 rfl
   have h7:=yh F 8 rfl h8 7 rfl
   have h6:=yh F 7 rfl h7 6 rfl
   have h5:=yh F 6 rfl h6 5 rfl
   have h4:=yh F 5 rfl h5 4 rfl
   have vM:∀ j,j ≠ 15→j < 17→xx[j]? = some true:=fun j hj0 X=>by
    rcases (by omega:j = 0 ∨ j = 1 ∨ j = 2 ∨ j = 3 ∨ j = 4 ∨ j = 5 ∨ j = 6 ∨ j = 7 ∨ j = 8 ∨ j = 9 ∨ j = 10 ∨ j = 11 ∨ j = 12 ∨ j = 13 ∨ j = 14 ∨ j = 16) with rfl | rfl | rfl | rfl | rfl | rfl | rfl | rfl | rfl | rfl | rfl | rfl | rfl | rfl | rfl | rfl <;> assumption
   rw [vM i xA xI] at xt; cases xt
  clear F
  have xE:=H xl
  have HD:=H hD
  have qJ:=H (zi (U HRW) xl yb)
  have xm:∀ (p:Addr) u,hj.cell? p = some u→cl.cell? p = some u:=fun p u hu=>(xl.cell (yL hj _ hu)).trans hu
  match i,Z with
  | 0,Z | 4,Z =>
   obtain rfl:=yc Z
   clear E hD xl xm
   rw [if_pos (by rfl)];unfold Oper.wp;go_simp
   exact ⟨upd f _ (J G 0),by simp [upd],zg (U xE) (U HD) (by decide) ⟨fun h=>absurd h (by decide),fun h=>absurd h (by decide),fun h=>absurd h (by decide),yj rfl⟩⟩
  | 1,Z =>
   obtain rfl:=yc Z
   have g0:=(hD 0 (yf E 0 rfl)).2.2.2 _ rfl
   clear E hD xl xm
   rw [if_pos (by rfl)];unfold Oper.wp;go_simp
   exact ⟨upd f 1 (J G 0),by simp [upd,g0],zg (U xE) (U HD) (by decide) ⟨fun h=>absurd h (by decide),fun h=>absurd h (by decide),fun h=>absurd h (by decide),yj rfl⟩⟩
  | 2,Z =>
   obtain rfl:=yc Z
   have g1:=(hD 1 (yf E 1 rfl)).2.2.2 _ rfl
   clear E hD xl xm
   rw [if_pos (by rfl)];unfold Oper.wp;go_simp
   exact ⟨upd f 2 (J G 1),by simp [upd,g1],zg (U xE) (U HD) (by decide) ⟨fun h=>absurd h (by decide),fun h=>absurd h (by decide),fun h=>absurd h (by decide),yj rfl⟩⟩
  | 3,Z =>
   obtain rfl:=yc Z
   have g2:=(hD 2 (yf E 2 rfl)).2.2.2 _ rfl
   have z1:=xm (D G 1) _ (U HC1)
   have z2:=xm (D G 2) _ (U HC2)
   clear E hD xl xm
   rw [if_pos (by rfl)];unfold Oper.wp;go_simp
   exact ⟨upd f 3 (.agg #[I nx,vq]),by simp [upd,g2],zg (U xE) (U HD) (by decide) ⟨fun h=>absurd h (by decide),fun h=>absurd h (by decide),fun h=>absurd h (by decide),yj rfl⟩⟩
  | 5,Z =>
   obtain rfl:=yc Z
   have g4:=(hD 4 (yf E 4 rfl)).2.2.2 _ rfl
   clear E hD xl xm
   rw [if_pos (by rfl)];unfold Oper.wp;go_simp
   exact ⟨upd f 5 (J G 0),by simp [upd,g4],zg (U xE) (U HD) (by decide) ⟨fun h=>absurd h (by decide),fun h=>absurd h (by decide),fun h=>absurd h (by decide),yj rfl⟩⟩
  | 6,Z =>
   obtain rfl:=yc Z
   have g5:=(hD 5 (yf E 5 rfl)).2.2.2 _ rfl
   clear E hD xl xm
   rw [if_pos (by rfl)];unfold Oper.wp;go_simp
   exact ⟨upd f 6 (J G 4),by simp [upd,g5],zg (U xE) (U HD) (by decide) ⟨fun h=>absurd h (by decide),fun h=>absurd h (by decide),fun h=>absurd h (by decide),yj rfl⟩⟩
  | 7,Z =>
   obtain rfl:=yc Z
   have g6:=(hD 6 (yf E 6 rfl)).2.2.2 _ rfl
   clear E hD xl xm
   rw [if_pos (by rfl)];unfold Oper.wp;go_simp
   exact ⟨upd f 7 (J G 4),by simp [upd,g6],zg (U xE) (U HD) (by decide) ⟨fun h=>absurd h (by decide),fun h=>absurd h (by decide),fun h=>absurd h (by decide),yj rfl⟩⟩
  | 8,Z =>
   obtain rfl:=yc Z
   have g7:=(hD 7 (yf E 7 rfl)).2.2.2 _ rfl
   have z4:=xm (D G 4) _ (U HC4)
   clear E hD xl xm
   rw [if_pos (by rfl)];unfold Oper.wp;go_simp
   exact ⟨upd f 8 (I L),by simp [upd,g7],zg (U xE) (U HD) (by decide) ⟨fun h=>absurd h (by decide),fun h=>absurd h (by decide),fun h=>absurd h (by decide),yj rfl⟩⟩
  | 9,Z =>
   obtain rfl:=yc Z
   have g8:=(hD 8 (yf E 8 rfl)).2.2.2 _ rfl
   clear E hD xl xm
   rw [if_pos (by rfl)];unfold Oper.wp;go_simp
   refine (otherSide_any L cl).mono ?_
   rw [U HSD]
   rintro e w4 ⟨rfl,rfl⟩
   exact ⟨upd f 9 (I sd),by simp [upd,g8],zg (U xE) (U HD) (by decide) ⟨fun h=>absurd h (by decide),fun h=>absurd h (by decide),fun h=>absurd h (by decide),yj rfl⟩⟩
  | 10,Z =>
   obtain rfl:=yc Z
   have g3:=(hD 3 (yf E 3 rfl)).2.2.2 _ rfl
   have g9:=(hD 9 (yf E 9 rfl)).2.2.2 _ rfl
   have jA:=kX (by omega) (by omega)
   clear E hD xl xm
   rw [if_pos (by rfl)];unfold Oper.wp;go_simp
   by_cases uV:sd = 1
   ·subst uV
    refine (fR nx _ l cl (U qJ) (U qR).len (U HLB)).mono ?_
    rintro e w4 ⟨b,rfl,ht,qi,xy⟩
    exact ⟨upd f 10 (cx b),by simp [upd,g3,g9],bM (U xE) (U HD) xy (by decide) (dtk_grow jA xy) ⟨fun _ _=>.inl ⟨rfl,b,rfl,ht⟩,fun h=>absurd h (by decide),fun h=>absurd h (by decide),fun u hu=>by cases hu⟩⟩
   ·skip
    refine (fC nx sd uV _ l cl (U qJ) (U qR).len (U HLB)).mono ?_
    rintro e w4 ⟨b,rfl,ht,qi,xy⟩
    exact ⟨upd f 10 (cy b),by simp [upd,g3,g9],bM (U xE) (U HD) xy (by decide) (dtk_grow jA xy) ⟨fun _ _=>.inr ⟨uV,b,rfl,ht⟩,fun h=>absurd h (by decide),fun h=>absurd h (by decide),fun u hu=>by cases hu⟩⟩
  | 11,Z =>
   obtain rfl:=yc Z
   have jA:=kX (by omega) (by omega)
   rcases (hD 10 (yf E 10 rfl)).1 rfl jA with ⟨uV,b,qy,ht⟩ | ⟨uV,b,qy,ht⟩
   ·subst uV
    have HT:=H ht
    have hfl:=field0_bm b cl
    clear E hD xl xm ht
    rw [if_pos (by rfl)];unfold Oper.wp;go_simp
    exact ⟨upd f 11 (.func (.func 166) #[J b 0] #[]),by simp [upd,qy],zg (U xE) (U HD) (by decide) ⟨fun h=>absurd h (by decide),fun _ _=>.inl ⟨rfl,b,rfl,U HT⟩,fun h=>absurd h (by decide),fun u hu=>by cases hu⟩⟩
   ·skip
    have HT:=H ht
    have hfl:=field0_sm b cl
    clear E hD xl xm ht
    rw [if_pos (by rfl)];unfold Oper.wp;go_simp
    exact ⟨upd f 11 (.func (.func 170) #[J b 0] #[]),by simp [upd,qy],zg (U xE) (U HD) (by decide) ⟨fun h=>absurd h (by decide),fun _ _=>.inr ⟨uV,b,rfl,U HT⟩,fun h=>absurd h (by decide),fun u hu=>by cases hu⟩⟩
  | 12,Z =>
   obtain rfl:=yc Z
   have jA:=kX (by omega) (by omega)
   rcases (hD 11 (yf E 11 rfl)).2.1 rfl jA with ⟨uV,b,vI,ht⟩ | ⟨uV,b,vI,ht⟩
   ·subst uV
    have HT:=H ht
    have HE:Hid (frOf (quOf true (zv l 1)) = .tuple #[.agg (yx x.id x.side x.ticks x.left x.life x.tag).toArray,.bool fb]):=by show _ = _; have:=U HFR; simpa using this
    clear E hD xl xm ht
    rw [if_pos (by rfl)];unfold Oper.wp;go_simp
    refine (front_b b 1 (zv l 1) cl (U HT) (yO (List.length_filter_le _ _) (U qR).len)).mono ?_
    rw [U HE]
    rintro e w4 ⟨rfl,xy⟩
    exact ⟨upd f 12 (.tuple #[.agg (yx x.id x.side x.ticks x.left x.life x.tag).toArray,.bool fb]),by simp [upd,vI],bM (U xE) (U HD) xy (by decide) (dtk_grow jA xy) ⟨fun h=>absurd h (by decide),fun h=>absurd h (by decide),fun h=>absurd h (by decide),yj rfl⟩⟩
   ·skip
    have HT:=H ht
    have HE:Hid (frOf (quOf false (zv l sd)) = .tuple #[.agg (yx x.id x.side x.ticks x.left x.life x.tag).toArray,.bool fb]):=by show _ = _; have:=U HFR; rw [decide_eq_false uV] at this; exact this
    clear E hD xl xm ht
    rw [if_pos (by rfl)];unfold Oper.wp;go_simp
    refine (front_s b sd (zv l sd) cl (U HT) (yO (List.length_filter_le _ _) (U qR).len)).mono ?_
    rw [U HE]
    rintro e w4 ⟨rfl,xy⟩
    exact ⟨upd f 12 (.tuple #[.agg (yx x.id x.side x.ticks x.left x.life x.tag).toArray,.bool fb]),by simp [upd,vI],bM (U xE) (U HD) xy (by decide) (dtk_grow jA xy) ⟨fun h=>absurd h (by decide),fun h=>absurd h (by decide),fun h=>absurd h (by decide),yj rfl⟩⟩
  | 13,Z =>
   obtain rfl:=yc Z
   have ua:=(hD 12 (yf E 12 rfl)).2.2.2 _ rfl
   clear E hD xl xm
   rw [if_pos (by rfl)];unfold Oper.wp;go_simp
   exact ⟨upd f 13 (.tuple #[.agg (yx x.id x.side x.ticks x.left x.life x.tag).toArray,.bool fb]),by simp [upd,ua],zg (U xE) (U HD) (by decide) ⟨fun h=>absurd h (by decide),fun h=>absurd h (by decide),fun h=>absurd h (by decide),yj rfl⟩⟩
  | 14,Z =>
   obtain rfl:=yc Z
   have qP:=(hD 13 (yf E 13 rfl)).2.2.2 _ rfl
   clear E hD xl xm
   rw [if_pos (by rfl)];unfold Oper.wp;go_simp
   exact ⟨upd f 14 (.agg (yx x.id x.side x.ticks x.left x.life x.tag).toArray),by simp [upd,qP],zg (U xE) (U HD) (by decide) ⟨fun h=>absurd h (by decide),fun h=>absurd h (by decide),fun h=>absurd h (by decide),yj rfl⟩⟩
  | 15,Z =>
   obtain rfl:=yc Z
   have qP:=(hD 13 (yf E 13 rfl)).2.2.2 _ rfl
   clear E hD xl xm
   rw [if_pos (by rfl)];unfold Oper.wp;go_simp
   exact ⟨upd f 15 (.bool fb),by simp [upd,qP],zg (U xE) (U HD) (by decide) ⟨fun h=>absurd h (by decide),fun h=>absurd h (by decide),fun h=>absurd h (by decide),yj rfl⟩⟩
  | 16,Z =>
   obtain rfl:=yc Z
   have jA:=kX (by omega) (by omega)
   clear E hD xl xm
   rw [if_pos (by rfl)];unfold Oper.wp;go_simp
   have xy:=gp cl (A (yx 0 0 0 0 0 ⟨#[]⟩).toArray 78)
   exact ⟨upd f 16 (J cl.heap.size 0),by simp [upd],bM (U xE) (U HD) xy (by decide) (dtk_grow jA xy) ⟨fun h=>absurd h (by decide),fun h=>absurd h (by decide),fun _=>⟨cl.heap.size,rfl,(U xE).size,fun _=>⟨cj cl (yx 0 0 0 0 0 ⟨#[]⟩) _,by rw [zj]; omega⟩,fun h=>absurd h jA⟩,fun u hu=>by cases hu⟩⟩
  | 17,Z =>
   obtain rfl:=yc Z
   have jA:¬ xx[17]? = some true:=by rw [xt]; simp
   have jo:=(hD 14 (yf E 14 rfl)).2.2.2 _ rfl
   obtain ⟨pb,g16,hpb,xZ,-⟩:=(hD 16 (yf E 16 rfl)).2.2.1 rfl
   obtain ⟨xZ,aE⟩:=xZ jA
   have HTH:=H xZ
   obtain ⟨u0,y0,q0⟩:=zH xZ 0 (by omega)
   obtain ⟨u1,y1,q1⟩:=zH xZ 1 (by omega)
   obtain ⟨u2,y2,q2⟩:=zH xZ 2 (by omega)
   obtain ⟨u3,y3,q3⟩:=zH xZ 3 (by omega)
   obtain ⟨u4,y4,q4⟩:=zH xZ 4 (by omega)
   obtain ⟨u5,y5,q5⟩:=zH xZ 5 (by omega)
   simp only [Nat.zero_add] at y0 q0 y1 q1 y2 q2 y3 q3 y4 q4 y5 q5
   clear xZ
   clear E hD xl xm
   rw [if_pos (by rfl)];unfold Oper.wp;go_simp
   refine ⟨upd f 17 M,by simp [upd,jo,g16],rgx_last (zh pb hpb (yx x.id x.side x.ticks x.left x.life x.tag) 0 cl (U xE)) (U HD) xt (fun j X hxj h=>dtk_last j h (fun hj16=>?_)) ⟨fun h=>absurd h (by decide),fun h=>absurd h (by decide),fun h=>absurd h (by decide),fun u hu=>by cases hu⟩⟩
   rw [hj16]
   refine ⟨pb,g16,hpb,fun h=>absurd trivial h,fun _=>⟨?_,?_⟩⟩
   ·exact yY cl pb 0 (yx x.id x.side x.ticks x.left x.life x.tag) (fun j X=>U HTH j X)
   ·show pb < (cl.setCells pb 0 (yx x.id x.side x.ticks x.left x.life x.tag)).heap.size
    simp only [World.setCells,World.setCell,Array.size_modify]; exact aE
  | 18,Z =>
   obtain rfl:=yc Z
   have g15:=(hD 15 (yf E 15 rfl)).2.2.2 _ rfl
   clear E hD xl xm
   rw [if_pos (by rfl)];unfold Oper.wp;go_simp
   exact ⟨upd f 18 (.bool fb),by simp [upd,g15],zg (U xE) (U HD) (by decide) ⟨fun h=>absurd h (by decide),fun h=>absurd h (by decide),fun h=>absurd h (by decide),yj rfl⟩⟩
  | i + 19,Z=>simp at Z
theorem due_any {G B r:Nat} {vq:Value} {g:Gr} (w:World) (h:GS G B r w vq g) (hi:GI g):Calls Tryz.prog 32 #[J G 0] w fun e w'=>e = .returned (duV (dueG g))∧yp w w':=by
 have hsf:=sfl
 have hG:=h.lt
 obtain ⟨xC,HX⟩:=gw w [I 0,I 0,I 0,I 0,I 0] 29
 have HS:Hid ((w.alloc (A #[I 0,I 0,I 0,I 0,I 0] 29)).heap.size = w.heap.size + 1):=by show _ = _; simp
 have HG:=H (zA h xC)
 have HB:=H xC
 have HI:=H hi
 clear h xC hi
 go_enter Tryz.func32,Tryz.ntmps32
 refine gv fun hR HK=>?_
 go_wp2_with fail
 refine U HK _ _ ?_
 clear HK
 generalize (w.alloc (A #[I 0,I 0,I 0,I 0,I 0] 29)) = W1 at HX HS HG HB ⊢
 have c3:W1.cell? (D G 3) = some (I g.bg):=R (U HG).box 3 rfl
 by_cases N:g.bg = 1
 ·have HQ:Hid (duV (dueG g) = duV (takD g.l g.cm g.tk)):=by show _ = _; unfold dueG; rw [if_pos N]
  have b1:(g.bg == 1) = true:=by simpa using N
  clear N
  go_wp2_with fail
  refine (takerDue_any W1 (U HG) (U HI).l0 (fun h0=>(U HI).good (.inr h0))).mono ?_
  rintro e w2 ⟨rfl,xK⟩
  have xJ:=H (zf (U HX) xK (by have:=U HS; omega))
  have xw:=H (gu (U HB) xK)
  clear xK c3
  generalize hd:takD g.l g.cm g.tk = d at HQ ⊢
  clear hd
  obtain ⟨dk,di,dt,dq,dp⟩:=d
  unfold duV at HQ ⊢
  simp only at HQ ⊢
  have z0:=R (U xJ) 0 rfl
  have z1:=R (U xJ) 1 rfl
  have z2:=R (U xJ) 2 rfl
  have z3:=R (U xJ) 3 rfl
  have z4:=R (U xJ) 4 rfl
  have f0:=zd (U xJ) 0 (by decide)
  have f1:=zd (U xJ) 1 (by decide)
  have f2:=zd (U xJ) 2 (by decide)
  have f3:=zd (U xJ) 3 (by decide)
  have f4:=zd (U xJ) 4 (by decide)
  go_wp2_with fail
  try simp (config:={ zetaDelta:=true }) only [Exit.noGoto_ret]
  change bodyPost _ _ _ _ _ (World.setCells w2 w.heap.size 0 [I dk,I di,I dt,I dq,I dp])
  have xp:Hid ((World.setCells w2 w.heap.size 0 [I dk,I di,I dt,I dq,I dp]).rangeAt w.heap.size 0 [I dk,I di,I dt,I dq,I dp]∧yp w (World.setCells w2 w.heap.size 0 [I dk,I di,I dt,I dq,I dp])):=⟨(zu (U xJ) (by simp only [List.length_cons,List.length_nil])).r,zh w.heap.size (by omega) [I dk,I di,I dt,I dq,I dp] 0 w2 (U xw)⟩
  generalize World.setCells w2 w.heap.size 0 [I dk,I di,I dt,I dq,I dp] = WE at xp ⊢
  obtain ⟨d0,d1,d2,d3,d4⟩:=yC (U xp).1
  try simp only [Exit.inBlock,Exit.then]
  refine bodyPost_ret (by simp [results,Tryz.results32,go_sem,d0,d1,d2,d3,d4]; try rfl) rfl ?_
  exact ⟨congrArg Ending.returned (U HQ).symm,(U xp).2⟩
 ·have b1:(g.bg == 1) = false:=by simpa using N
  by_cases h8:g.bg = 8
  ·have HQ:Hid (duV (dueG g) = duV (dayD g.l)):=by show _ = _; unfold dueG; rw [if_neg N,if_pos h8]
   have b8:(g.bg == 8) = true:=by simpa using h8
   clear N h8
   go_wp2_with fail
   refine (dayDue_any W1 (U HG) (yO (U HI).len (by decide))).mono ?_
   rintro e w2 ⟨rfl,xK⟩
   have xJ:=H (zf (U HX) xK (by have:=U HS; omega))
   have xw:=H (gu (U HB) xK)
   clear xK c3
   generalize hd:dayD g.l = d at HQ ⊢
   clear hd
   obtain ⟨dk,di,dt,dq,dp⟩:=d
   unfold duV at HQ ⊢
   simp only at HQ ⊢
   have z0:=R (U xJ) 0 rfl
   have z1:=R (U xJ) 1 rfl
   have z2:=R (U xJ) 2 rfl
   have z3:=R (U xJ) 3 rfl
   have z4:=R (U xJ) 4 rfl
   have f0:=zd (U xJ) 0 (by decide)
   have f1:=zd (U xJ) 1 (by decide)
   have f2:=zd (U xJ) 2 (by decide)
   have f3:=zd (U xJ) 3 (by decide)
   have f4:=zd (U xJ) 4 (by decide)
   go_wp2_with fail
   try simp (config:={ zetaDelta:=true }) only [Exit.noGoto_ret]
   change bodyPost _ _ _ _ _ (World.setCells w2 w.heap.size 0 [I dk,I di,I dt,I dq,I dp])
   have xp:Hid ((World.setCells w2 w.heap.size 0 [I dk,I di,I dt,I dq,I dp]).rangeAt w.heap.size 0 [I dk,I di,I dt,I dq,I dp]∧yp w (World.setCells w2 w.heap.size 0 [I dk,I di,I dt,I dq,I dp])):=⟨(zu (U xJ) (by simp only [List.length_cons,List.length_nil])).r,zh w.heap.size (by omega) [I dk,I di,I dt,I dq,I dp] 0 w2 (U xw)⟩
   generalize World.setCells w2 w.heap.size 0 [I dk,I di,I dt,I dq,I dp] = WE at xp ⊢
   obtain ⟨d0,d1,d2,d3,d4⟩:=yC (U xp).1
   try simp only [Exit.inBlock,Exit.then]
   refine bodyPost_ret (by simp [results,Tryz.results32,go_sem,d0,d1,d2,d3,d4]; try rfl) rfl ?_
   exact ⟨congrArg Ending.returned (U HQ).symm,(U xp).2⟩
  ·have HQ:Hid (dueG g = zDu):=by show _ = _; unfold dueG; rw [if_neg N,if_neg h8]
   have b8:(g.bg == 8) = false:=by simpa using h8
   clear N h8
   have z0:=R (U HX) 0 rfl
   have z1:=R (U HX) 1 rfl
   have z2:=R (U HX) 2 rfl
   have z3:=R (U HX) 3 rfl
   have z4:=R (U HX) 4 rfl
   have f0:=zd (U HX) 0 (by decide)
   have f1:=zd (U HX) 1 (by decide)
   have f2:=zd (U HX) 2 (by decide)
   have f3:=zd (U HX) 3 (by decide)
   have f4:=zd (U HX) 4 (by decide)
   go_wp2_with fail
   try simp (config:={ zetaDelta:=true }) only [Exit.noGoto_ret]
   change bodyPost _ _ _ _ _ (World.setCells W1 w.heap.size 0 [I 0,I 0,I 0,I 0,I 0])
   have xp:Hid ((World.setCells W1 w.heap.size 0 [I 0,I 0,I 0,I 0,I 0]).rangeAt w.heap.size 0 [I 0,I 0,I 0,I 0,I 0]∧yp w (World.setCells W1 w.heap.size 0 [I 0,I 0,I 0,I 0,I 0])):=⟨(zu (U HX) (by simp only [List.length_cons,List.length_nil])).r,zh w.heap.size (by omega) [I 0,I 0,I 0,I 0,I 0] 0 W1 (U HB)⟩
   generalize World.setCells W1 w.heap.size 0 [I 0,I 0,I 0,I 0,I 0] = WE at xp ⊢
   obtain ⟨d0,d1,d2,d3,d4⟩:=yC (U xp).1
   try simp only [Exit.inBlock,Exit.then]
   refine bodyPost_ret (by simp [results,Tryz.results32,go_sem,d0,d1,d2,d3,d4]; try rfl) rfl ?_
   exact ⟨by rw [U HQ]; rfl,(U xp).2⟩
end Go.Proofs.YtnphbkgfjanmgaaGreatDoor
