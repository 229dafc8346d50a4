/-
  What is due of a taker, by the program: proved by walking the method.
-/
import Derived.Test.YtnphbkgfjanmgaaGreatDoorBj27
set_option linter.unusedVariables false
set_option maxHeartbeats 6400000
set_option maxRecDepth 100000
namespace Go.Proofs.YtnphbkgfjanmgaaGreatDoor
open Go.RowKit
def DTk (vs:List (Option Value)) (base:World) (l:List Od) (sd:Int) (x:Od) (p:Prop) (xn:World) (j:Nat) (v:Value):Prop :=
 (j = 10→¬ p→SdV xn v l sd)∧(j = 11→¬ p→FrV xn v l sd)∧(j = 16→∃ pb,v = J pb 0∧base.heap.size ≤ pb∧(¬ p→xn.there pb 0 6∧pb < xn.heap.size)∧(p→xn.rangeAt pb 0 x.vs∧pb < xn.heap.size))∧∀ u,vs[j]? = some (some u)→v = u
section
variable {vs:List (Option Value)} {base xn V':World} {l:List Od} {sd:Int} {x:Od} {p:Prop}
theorem dtk_grow (hp:¬ p) (Y:yn xn V'):∀ j v,DTk vs base l sd x p xn j v→DTk vs base l sd x p V' j v:=by
 rintro j v ⟨Q,E,h3,h4⟩
 refine ⟨fun O hp=>?_,fun O hp=>?_,fun O=>?_,h4⟩
 ·rcases Q O hp with ⟨Q,b,E,h3⟩ | ⟨Q,b,E,h3⟩
  ·exact .inl ⟨Q,b,E,zu h3 (Y.block _ (zH h3))⟩
  ·exact .inr ⟨Q,b,E,zu h3 (Y.block _ (zH h3))⟩
 ·rcases E O hp with ⟨Q,b,E,h3⟩ | ⟨Q,b,E,h3⟩
  ·exact .inl ⟨Q,b,E,zu h3 (Y.block _ (zH h3))⟩
  ·exact .inr ⟨Q,b,E,zu h3 (Y.block _ (zH h3))⟩
 ·obtain ⟨pb,h5,h6,h7,h8⟩:=h3 O
  refine ⟨pb,h5,h6,fun hp=>?_,fun h=>absurd h hp⟩
  obtain ⟨h9,uV⟩:=h7 hp
  exact ⟨zo h9 Y uV,yJ uV Y.size⟩
theorem dtk_last {v:Value}:∀ j,DTk vs base l sd x False xn j v→(j = 16→∃ pb,v = J pb 0∧base.heap.size ≤ pb∧(¬ True→V'.there pb 0 6∧pb < V'.heap.size)∧(True→V'.rangeAt pb 0 x.vs∧pb < V'.heap.size))→DTk vs base l sd x True V' j v :=
 fun j h h16=>⟨fun _ hp=>absurd trivial hp,fun _ hp=>absurd trivial hp,h16,h.2.2.2⟩
end
theorem takerDue_any {G B r:Nat} {vq:Value} {g:Gr} (w:World) (h:GS G B r w vq g) (jH:0 ≤ g.tk.left) (hg:g.tk.left ≠ 0→GoodL g.l):Calls Tryz.prog 59 #[J G 0] w fun e w'=>e = .returned (duV (takD g.l g.cm g.tk))∧yn w w':=by
 have hsf:=sfl
 have hG:=h.lt
 obtain ⟨xz,HX⟩:=fJ w [I 0,I 0,I 0,I 0,I 0] 29
 have HS:Hid ((w.alloc (A #[I 0,I 0,I 0,I 0,I 0] 29)).heap.size = w.heap.size + 1):=by show _ = _; simp
 have HG:=M (zx h xz)
 have HB:=M xz
 clear h xz
 obtain ⟨nx,l,bg,⟨ck,L,ct,F,cq,ci,X,cg⟩,⟨ti,kW,tt,tl,kV,tg⟩⟩:=g
 simp only at jH hg ⊢
 go_enter Tryz.func59,Tryz.ntmps59
 refine fI fun hR HK=>?_
 go_wp2_with fail
 refine H HK _ _ ?_
 clear HK
 generalize (w.alloc (A #[I 0,I 0,I 0,I 0,I 0] 29)) = W1 at HX HS HG HB ⊢
 have c10:W1.cell? (U G 10) = some (I ti):=R (H HG).box 10 rfl
 have c13:W1.cell? (U G 13) = some (I tl):=R (H HG).box 13 rfl
 go_wp2_with fail
 go_quiet (fail)
 have qH:Hid (Bx (W1.drewN nq) w.heap.size [I 0,I 0,I 0,I 0,I 0]):=cX (H HX) nq
 have HGG:Hid (GS G B r (W1.drewN nq) vq ⟨nx,l,bg,⟨ck,L,ct,F,cq,ci,X,cg⟩,⟨ti,kW,tt,tl,kV,tg⟩⟩):=zx (H HG) ⟨rfl,rfl,rfl,Nat.le_refl _,fun _ _=>rfl⟩
 have HBB:Hid (yn w (W1.drewN nq)):=zV (H HB) nq
 have jB:Hid ((W1.drewN nq).heap.size = w.heap.size + 1):=H HS
 clear HX HG HB HS c10 c13
 generalize W1.drewN nq = cp at qH HGG HBB jB ⊢
 by_cases h0:tl = 0
 ·have HD:Hid (takD l ⟨ck,L,ct,F,cq,ci,X,cg⟩ ⟨ti,kW,tt,tl,kV,tg⟩ = zDu):=by show _ = _; unfold takD; rw [if_pos h0]
  have b0:(tl == 0) = true:=by simpa using h0
  clear h0
  have z0:=R (H qH) 0 rfl
  have z1:=R (H qH) 1 rfl
  have z2:=R (H qH) 2 rfl
  have z3:=R (H qH) 3 rfl
  have z4:=R (H qH) 4 rfl
  have f0:=zd (H qH) 0 (by decide)
  have f1:=zd (H qH) 1 (by decide)
  have f2:=zd (H qH) 2 (by decide)
  have f3:=zd (H qH) 3 (by decide)
  have f4:=zd (H qH) 4 (by decide)
  go_wp2_with fail
  try simp (config:={ zetaDelta:=true }) only [Exit.noGoto_ret]
  change bodyPost _ _ _ _ _ (World.setCells cp w.heap.size 0 [I 0,I 0,I 0,I 0,I 0])
  have xp:Hid ((World.setCells cp w.heap.size 0 [I 0,I 0,I 0,I 0,I 0]).rangeAt w.heap.size 0 [I 0,I 0,I 0,I 0,I 0]∧yn w (World.setCells cp w.heap.size 0 [I 0,I 0,I 0,I 0,I 0])):=⟨(zF (H qH) (by simp only [List.length_cons,List.length_nil])).r,zj w.heap.size ya [I 0,I 0,I 0,I 0,I 0] 0 cp (H HBB)⟩
  generalize World.setCells cp w.heap.size 0 [I 0,I 0,I 0,I 0,I 0] = WE at xp ⊢
  obtain ⟨d0,d1,d2,d3,d4⟩:=yB (H xp).1
  try simp only [Exit.inBlock,Exit.then]
  refine bodyPost_ret (by simp [results,Tryz.results59,go_sem,d0,d1,d2,d3,d4]; try rfl) rfl ?_
  exact ⟨by rw [H HD]; rfl,(H xp).2⟩
 have qL:=M (hg h0)
 have b0:(tl == 0) = false:=by simpa using h0
 have HLB:Hid (∀ o' ∈ l,0 ≤ o'.left∧o'.left ≤ 1000000):=fun o' vM=>by have:=(H qL).left o' vM; omega
 have HRW:=M (zK (H HGG).row (yN (H qL).len (by decide)))
 generalize uT:othS L = sd
 have HSD:=M uT
 generalize hq:quOf (decide (sd = 1)) (zt l sd) = q
 have kf:=frOf_eq q
 generalize hx:hdO q = x at kf
 generalize oM:hdF q = fb at kf
 have HFR:Hid (frOf (quOf (decide (sd = 1)) (zt l sd)) = .tuple #[.agg (yw x.id x.side x.ticks x.left x.life x.tag).toArray,.bool fb]):=by show _ = _; rw [hq]; exact kf
 have HFO:Hid (aV l (othS L) = if fb = true then some x else none):=by
  show _ = _
  rw [aV,uT,hq,← hx,← oM,hdO,hdF]
  cases q.head? <;> rfl
 clear uT hq kf hx oM q hg
 have HC1:Hid (cp.cell? (U G 1) = some (I nx)):=R (H HGG).box 1 rfl
 have oC:Hid (cp.cell? (U G 2) = some vq):=R (H HGG).box 2 rfl
 have HC4:Hid (cp.cell? (U G 4) = some (I L)):=R (H HGG).box 4 rfl
 go_wp2_with fail
 refine zk (RG cp (fun f=>{ tmps:=#[J G 0,Z,J w.heap.size 0,I ti,I tl,f 16,f 18,J G 0,J G 0,J G 10,J G 10,I ti,J G 0,J G 0,J G 10,J G 13,I tl,I tl,.bool false,Z,f 13,f 0,f 1,f 2,f 3,f 4,f 5,f 6,f 7,f 8,f 9,f 10,f 11,f 12,f 14,f 15,Z,Z,Z,Z,Z,Z,Z,Z,Z,Z,Z,Z,Z,Z,Z,Z,Z,Z,Z,Z,Z,Z,Z,Z,Z,Z,Z,Z,Z,Z,Z,Z],defers:=[] }) 17 (DTk [some (J G 0),some (J G 0),some (J G 1),some (.agg #[I nx,vq]),some (J G 0),some (J G 0),some (J G 4),some (J G 4),some (I L),some (I sd),none,none,some (.tuple #[.agg (yw x.id x.side x.ticks x.left x.life x.tag).toArray,.bool fb]),some (.tuple #[.agg (yw x.id x.side x.ticks x.left x.life x.tag).toArray,.bool fb]),some (.agg (yw x.id x.side x.ticks x.left x.life x.tag).toArray),some (.bool fb),none,none,some (.bool fb)] cp l sd x)) (by kernel_rfl) ?_ ?_ ?_
 ·exact ⟨fun _=>Z,rfl,⟨rfl,rfl,rfl,Nat.le_refl _,fun _ _=>rfl⟩,fun j O=>by rw [yI] at O; split at O <;> simp at O⟩
 ·rintro xx fG xn ⟨f,rfl,xk,hD⟩ hx xN
  have xo:=bT xN hx (by kernel_rfl)
  have pm:xx[17]? = some true:=xo 17 (by simp)
  have g18:f 18 = .bool fb:=(hD 18 (xo 18 (by simp))).2.2.2 _ rfl
  obtain ⟨pb,g16,hpb,-,qC⟩:=(hD 16 (xo 16 (by simp))).2.2.1 rfl
  obtain ⟨hrg,ag⟩:=qC pm
  have vi:=M (zx (H HGG) xk)
  have hss:=H jB
  have qH:=M (zg (H qH) xk (by omega))
  have xL:=M (fH (H HBB) xk)
  have HRG:=M hrg
  dsimp only
  simp only [g18,g16]
  generalize f 0 = v0,f 1 = v1,f 2 = v2,f 3 = v3,f 4 = v4,f 5 = v5,f 6 = v6,f 7 = v7,f 8 = v8,f 9 = v9,f 10 = v10,f 11 = v11,f 12 = v12,f 13 = v13,f 14 = v14,f 15 = v15
  clear hD xo xN hx pm qC xk g16 g18 hrg f xx HC1 oC HC4 hss HGG HBB jB
  cases fb
  ·have HFO:Hid (aV l (othS L) = none):=by show _ = _; have:=H HFO; simpa using this
   have HD:Hid (takD l ⟨ck,L,ct,F,cq,ci,X,cg⟩ ⟨ti,kW,tt,tl,kV,tg⟩ = lftD ⟨ck,L,ct,F,cq,ci,X,cg⟩ ⟨ti,kW,tt,tl,kV,tg⟩):=by show _ = _; unfold takD; rw [if_neg h0]; simp only [H HFO]
   clear h0
   go_wp2_with fail
   go_quiet (fail)
   have uI:Hid (Bx (xn.drewN nq) w.heap.size [I 0,I 0,I 0,I 0,I 0]):=cX (H qH) _
   have uE:Hid (GS G B r (xn.drewN nq) vq ⟨nx,l,bg,⟨ck,L,ct,F,cq,ci,X,cg⟩,⟨ti,kW,tt,tl,kV,tg⟩⟩):=zx (H vi) ⟨rfl,rfl,rfl,Nat.le_refl _,fun _ _=>rfl⟩
   have ug:Hid (yn w (xn.drewN nq)):=zV (H xL) _
   have HZ5:Hid (w.heap.size < (xn.drewN nq).heap.size):=yK _ _ (R (H uI) 0 rfl)
   clear qH vi xL
   generalize xn.drewN nq = hb at uI uE ug HZ5 ⊢
   have c4:=R (H uE).box 4 rfl
   have c5:=R (H uE).box 5 rfl
   have c6:=R (H uE).box 6 rfl
   have c7:=R (H uE).box 7 rfl
   have c8:=R (H uE).box 8 rfl
   have c9:=R (H uE).box 9 rfl
   go_wp2_with fail
   refine (dU ⟨ck,L,ct,F,cq,ci,X,cg⟩ hb).mono ?_
   rintro e w5 ⟨rfl,uf⟩
   have vp:=M (zg (H uI) uf (by have:=H HZ5; omega))
   have qw:=M (fH (H ug) uf)
   clear uf c4 c5 c6 c7 c8 c9 uI ug uE
   have z0:=R (H vp) 0 rfl
   have z1:=R (H vp) 1 rfl
   have z2:=R (H vp) 2 rfl
   have z3:=R (H vp) 3 rfl
   have z4:=R (H vp) 4 rfl
   have f0:=zd (H vp) 0 (by decide)
   have f1:=zd (H vp) 1 (by decide)
   have f2:=zd (H vp) 2 (by decide)
   have f3:=zd (H vp) 3 (by decide)
   have f4:=zd (H vp) 4 (by decide)
   have HQ:Hid (lftD ⟨ck,L,ct,F,cq,ci,X,cg⟩ ⟨ti,kW,tt,tl,kV,tg⟩ = if ba ct = true then ⟨4,ti,0,tl,0⟩ else ⟨5,ti,0,tl,0⟩):=rfl
   cases ji:ba ct
   ·have HQ2:Hid (lftD ⟨ck,L,ct,F,cq,ci,X,cg⟩ ⟨ti,kW,tt,tl,kV,tg⟩ = ⟨5,ti,0,tl,0⟩):=by show _ = _; rw [H HQ,ji]; rfl
    clear ji HQ
    go_wp2_with fail
    try simp (config:={ zetaDelta:=true }) only [Exit.noGoto_ret]
    change bodyPost _ _ _ _ _ (World.setCells w5 w.heap.size 0 [I 5,I ti,I 0,I tl,I 0])
    have xp:Hid ((World.setCells w5 w.heap.size 0 [I 5,I ti,I 0,I tl,I 0]).rangeAt w.heap.size 0 [I 5,I ti,I 0,I tl,I 0]∧yn w (World.setCells w5 w.heap.size 0 [I 5,I ti,I 0,I tl,I 0])):=⟨(zF (H vp) (by simp only [List.length_cons,List.length_nil])).r,zj w.heap.size ya [I 5,I ti,I 0,I tl,I 0] 0 w5 (H qw)⟩
    generalize World.setCells w5 w.heap.size 0 [I 5,I ti,I 0,I tl,I 0] = WE at xp ⊢
    obtain ⟨d0,d1,d2,d3,d4⟩:=yB (H xp).1
    try simp only [Exit.inBlock,Exit.then]
    refine bodyPost_ret (by simp [results,Tryz.results59,go_sem,d0,d1,d2,d3,d4]; try rfl) rfl ?_
    exact ⟨by rw [H HD,H HQ2]; rfl,(H xp).2⟩
   ·have HQ2:Hid (lftD ⟨ck,L,ct,F,cq,ci,X,cg⟩ ⟨ti,kW,tt,tl,kV,tg⟩ = ⟨4,ti,0,tl,0⟩):=by show _ = _; rw [H HQ,ji]; rfl
    clear ji HQ
    go_wp2_with fail
    try simp (config:={ zetaDelta:=true }) only [Exit.noGoto_ret]
    change bodyPost _ _ _ _ _ (World.setCells w5 w.heap.size 0 [I 4,I ti,I 0,I tl,I 0])
    have xp:Hid ((World.setCells w5 w.heap.size 0 [I 4,I ti,I 0,I tl,I 0]).rangeAt w.heap.size 0 [I 4,I ti,I 0,I tl,I 0]∧yn w (World.setCells w5 w.heap.size 0 [I 4,I ti,I 0,I tl,I 0])):=⟨(zF (H vp) (by simp only [List.length_cons,List.length_nil])).r,zj w.heap.size ya [I 4,I ti,I 0,I tl,I 0] 0 w5 (H qw)⟩
    generalize World.setCells w5 w.heap.size 0 [I 4,I ti,I 0,I tl,I 0] = WE at xp ⊢
    obtain ⟨d0,d1,d2,d3,d4⟩:=yB (H xp).1
    try simp only [Exit.inBlock,Exit.then]
    refine bodyPost_ret (by simp [results,Tryz.results59,go_sem,d0,d1,d2,d3,d4]; try rfl) rfl ?_
    exact ⟨by rw [H HD,H HQ2]; rfl,(H xp).2⟩
  ·have HFS:Hid (aV l (othS L) = some x):=by show _ = _; have:=H HFO; simpa using this
   have ut:Hid (GS G B r xn.drew vq ⟨nx,l,bg,⟨ck,L,ct,F,cq,ci,X,cg⟩,⟨ti,kW,tt,tl,kV,tg⟩⟩):=zx (H vi) ⟨rfl,rfl,rfl,Nat.le_refl _,fun _ _=>rfl⟩
   have HRG4:Hid (xn.drew.rangeAt pb 0 x.vs):=H HRG
   have c4:=R (H ut).box 4 rfl
   have c5:=R (H ut).box 5 rfl
   have c6:=R (H ut).box 6 rfl
   have c7:=R (H ut).box 7 rfl
   have c8:=R (H ut).box 8 rfl
   have c9:=R (H ut).box 9 rfl
   obtain ⟨p0,p1,p2,p3,p4,p5⟩:=zA (H HRG4)
   simp only [Nat.zero_add] at p0 p1 p2 p3 p4 p5
   go_wp2_with fail
   refine zE 7 (by kernel_rfl) (by kernel_rfl) ?_
   simp only [yT,List.take_zero,yU,List.drop_zero]
   repeat still_step
   refine wpStill_nil ?_
   go_wp2_with fail
   refine (meets_any ⟨ck,L,ct,F,cq,ci,X,cg⟩ x xn.drew).mono ?_
   rintro e hb ⟨rfl,uf⟩
   have hzV:w.heap.size < xn.heap.size:=yK _ _ (R (H qH) 0 rfl)
   have uI:=M (zg (zJ (H qH)) uf hzV)
   have uE:=M (zx (H ut) uf)
   have ug:Hid (yn w hb):=⟨uf.os.trans (H xL).os,uf.tape.trans (H xL).tape,uf.output.trans (H xL).output,yN (H xL).size uf.size,fun k hk=>(uf.block k (Nat.lt_trans hk hzV)).trans ((H xL).block k hk)⟩
   have HZ5:Hid (w.heap.size < hb.heap.size):=yJ hzV uf.size
   obtain ⟨p0,p1,p2,p3,p4,p5⟩:=zA (zc (H HRG4) uf ag)
   simp only [Nat.zero_add] at p0 p1 p2 p3 p4 p5
   clear c4 c5 c6 c7 c8 c9 uf HRG4 ut hzV qH vi xL hsf
   cases hme:bA ⟨ck,L,ct,F,cq,ci,X,cg⟩ x
   ·have HD:Hid (takD l ⟨ck,L,ct,F,cq,ci,X,cg⟩ ⟨ti,kW,tt,tl,kV,tg⟩ = lftD ⟨ck,L,ct,F,cq,ci,X,cg⟩ ⟨ti,kW,tt,tl,kV,tg⟩):=by show _ = _; unfold takD; rw [if_neg h0]; simp only [H HFS,hme]; rfl
    clear h0 hme p0 p1 p2 p3 p4 p5
    have hsf:=sfl
    have c4:=R (H uE).box 4 rfl
    have c5:=R (H uE).box 5 rfl
    have c6:=R (H uE).box 6 rfl
    have c7:=R (H uE).box 7 rfl
    have c8:=R (H uE).box 8 rfl
    have c9:=R (H uE).box 9 rfl
    go_wp2_with fail
    refine (dU ⟨ck,L,ct,F,cq,ci,X,cg⟩ hb).mono ?_
    rintro e w5 ⟨rfl,uf⟩
    have vp:=M (zg (H uI) uf (by have:=H HZ5; omega))
    have qw:=M (fH (H ug) uf)
    clear uf c4 c5 c6 c7 c8 c9 uI ug uE
    have z0:=R (H vp) 0 rfl
    have z1:=R (H vp) 1 rfl
    have z2:=R (H vp) 2 rfl
    have z3:=R (H vp) 3 rfl
    have z4:=R (H vp) 4 rfl
    have f0:=zd (H vp) 0 (by decide)
    have f1:=zd (H vp) 1 (by decide)
    have f2:=zd (H vp) 2 (by decide)
    have f3:=zd (H vp) 3 (by decide)
    have f4:=zd (H vp) 4 (by decide)
    have HQ:Hid (lftD ⟨ck,L,ct,F,cq,ci,X,cg⟩ ⟨ti,kW,tt,tl,kV,tg⟩ = if ba ct = true then ⟨4,ti,0,tl,0⟩ else ⟨5,ti,0,tl,0⟩):=rfl
    cases ji:ba ct
    ·have HQ2:Hid (lftD ⟨ck,L,ct,F,cq,ci,X,cg⟩ ⟨ti,kW,tt,tl,kV,tg⟩ = ⟨5,ti,0,tl,0⟩):=by show _ = _; rw [H HQ,ji]; rfl
     clear ji HQ
     go_wp2_with fail
     try simp (config:={ zetaDelta:=true }) only [Exit.noGoto_ret]
     change bodyPost _ _ _ _ _ (World.setCells w5 w.heap.size 0 [I 5,I ti,I 0,I tl,I 0])
     have xp:Hid ((World.setCells w5 w.heap.size 0 [I 5,I ti,I 0,I tl,I 0]).rangeAt w.heap.size 0 [I 5,I ti,I 0,I tl,I 0]∧yn w (World.setCells w5 w.heap.size 0 [I 5,I ti,I 0,I tl,I 0])):=⟨(zF (H vp) (by simp only [List.length_cons,List.length_nil])).r,zj w.heap.size ya [I 5,I ti,I 0,I tl,I 0] 0 w5 (H qw)⟩
     generalize World.setCells w5 w.heap.size 0 [I 5,I ti,I 0,I tl,I 0] = WE at xp ⊢
     obtain ⟨d0,d1,d2,d3,d4⟩:=yB (H xp).1
     try simp only [Exit.inBlock,Exit.then]
     refine bodyPost_ret (by simp [results,Tryz.results59,go_sem,d0,d1,d2,d3,d4]; try rfl) rfl ?_
     exact ⟨by rw [H HD,H HQ2]; rfl,(H xp).2⟩
    ·have HQ2:Hid (lftD ⟨ck,L,ct,F,cq,ci,X,cg⟩ ⟨ti,kW,tt,tl,kV,tg⟩ = ⟨4,ti,0,tl,0⟩):=by show _ = _; rw [H HQ,ji]; rfl
     clear ji HQ
     go_wp2_with fail
     try simp (config:={ zetaDelta:=true }) only [Exit.noGoto_ret]
     change bodyPost _ _ _ _ _ (World.setCells w5 w.heap.size 0 [I 4,I ti,I 0,I tl,I 0])
     have xp:Hid ((World.setCells w5 w.heap.size 0 [I 4,I ti,I 0,I tl,I 0]).rangeAt w.heap.size 0 [I 4,I ti,I 0,I tl,I 0]∧yn w (World.setCells w5 w.heap.size 0 [I 4,I ti,I 0,I tl,I 0])):=⟨(zF (H vp) (by simp only [List.length_cons,List.length_nil])).r,zj w.heap.size ya [I 4,I ti,I 0,I tl,I 0] 0 w5 (H qw)⟩
     generalize World.setCells w5 w.heap.size 0 [I 4,I ti,I 0,I tl,I 0] = WE at xp ⊢
     obtain ⟨d0,d1,d2,d3,d4⟩:=yB (H xp).1
     try simp only [Exit.inBlock,Exit.then]
     refine bodyPost_ret (by simp [results,Tryz.results59,go_sem,d0,d1,d2,d3,d4]; try rfl) rfl ?_
     exact ⟨by rw [H HD,H HQ2]; rfl,(H xp).2⟩
   ·have HD:Hid (takD l ⟨ck,L,ct,F,cq,ci,X,cg⟩ ⟨ti,kW,tt,tl,kV,tg⟩ = ⟨3,ti,x.id,min tl x.left,x.ticks⟩):=by show _ = _; unfold takD; rw [if_neg h0]; simp only [H HFS,hme]; rfl
    clear h0 hme uE
    generalize hq:min tl x.left = qty at HD
    have hmin:∀ W,(Builtin.min_ #[3,3] 3 #[I tl,I x.left]).run Tryz.prog W = .ok (I qty) W:=fun W=>by
     rw [← hq]
     by_cases qi:tl ≤ x.left
     ·rw [Int.min_eq_left qi]; go_simp; omega
     ·rw [Int.min_eq_right (by omega)]; go_simp
    clear hq
    have z0:=R (H uI) 0 rfl
    have z1:=R (H uI) 1 rfl
    have z2:=R (H uI) 2 rfl
    have z3:=R (H uI) 3 rfl
    have z4:=R (H uI) 4 rfl
    have f0:=zd (H uI) 0 (by decide)
    have f1:=zd (H uI) 1 (by decide)
    have f2:=zd (H uI) 2 (by decide)
    have f3:=zd (H uI) 3 (by decide)
    have f4:=zd (H uI) 4 (by decide)
    go_wp2_with fail
    try simp (config:={ zetaDelta:=true }) only [Exit.noGoto_ret]
    change bodyPost _ _ _ _ _ (World.setCells hb w.heap.size 0 [I 3,I ti,I x.id,I qty,I x.ticks])
    have xp:Hid ((World.setCells hb w.heap.size 0 [I 3,I ti,I x.id,I qty,I x.ticks]).rangeAt w.heap.size 0 [I 3,I ti,I x.id,I qty,I x.ticks]∧yn w (World.setCells hb w.heap.size 0 [I 3,I ti,I x.id,I qty,I x.ticks])):=⟨(zF (H uI) (by simp only [List.length_cons,List.length_nil])).r,zj w.heap.size ya [I 3,I ti,I x.id,I qty,I x.ticks] 0 hb (H ug)⟩
    generalize World.setCells hb w.heap.size 0 [I 3,I ti,I x.id,I qty,I x.ticks] = WE at xp ⊢
    obtain ⟨d0,d1,d2,d3,d4⟩:=yB (H xp).1
    try simp only [Exit.inBlock,Exit.then]
    refine bodyPost_ret (by simp [results,Tryz.results59,go_sem,d0,d1,d2,d3,d4]; try rfl) rfl ?_
    exact ⟨by rw [H HD]; rfl,(H xp).2⟩
 ·rintro xx fG xn i op ⟨f,rfl,xk,hD⟩ V hx N xq D
  have kK:i ≠ 15→i < 17→¬ xx[17]? = some true:=fun xD xI qZ=>by
   have h16:=yf V 17 rfl qZ 16 rfl
   have oH:=yf V 17 rfl qZ 14 rfl
   have jN:=yf V 14 rfl oH 13 rfl
   have uO:=yf V 13 rfl jN 12 rfl
   have uS:=yf V 12 rfl uO 11 rfl
   have uV:=yf V 11 rfl uS 10 rfl
   have h3:=yf V 10 rfl uV 3 rfl
   have h9:=yf V 10 rfl uV 9 rfl
   have E:=yf V 3 rfl h3 2 rfl
   have Q:=yf V 2 rfl E 1 rfl
   have h0:=yf V 1 rfl Q 0 rfl
   have h8:=yf V 9 rfl h9 8 rfl
   have h7:=yf V 8 rfl h8 7 rfl
   have h6:=yf V 7 rfl h7 6 rfl
   have h5:=yf V 6 rfl h6 5 rfl
   have h4:=yf V 5 rfl h5 4 rfl
   have vK:∀ j,j ≠ 15→j < 17→xx[j]? = some true:=fun j hj0 O=>by
    rcases (by omega:j = 0 ∨ j = 1 ∨ j = 2 ∨ j = 3 ∨ j = 4 ∨ j = 5 ∨ j = 6 ∨ j = 7 ∨ j = 8 ∨ j = 9 ∨ j = 10 ∨ j = 11 ∨ j = 12 ∨ j = 13 ∨ j = 14 ∨ j = 16) with rfl | rfl | rfl | rfl | rfl | rfl | rfl | rfl | rfl | rfl | rfl | rfl | rfl | rfl | rfl | rfl <;> assumption
   rw [vK i xD xI] at xq; cases xq
  clear V
  have xy:=M xk
  have HD:=M hD
  have ql:=M (zh (H HRW) xk ya)
  have xl:∀ (p:Addr) u,cp.cell? p = some u→xn.cell? p = some u:=fun p u hu=>(xk.cell (yK cp _ hu)).trans hu
  match i,N with
  | 0,N | 4,N =>
   obtain rfl:=yb N
   clear D hD xk xl
   rw [if_pos (by rfl)];unfold Oper.wp;go_simp
   exact ⟨upd f _ (J G 0),by simp [upd],zf (H xy) (H HD) (by decide) ⟨fun h=>absurd h (by decide),fun h=>absurd h (by decide),fun h=>absurd h (by decide),yi rfl⟩⟩
  | 1,N =>
   obtain rfl:=yb N
   have g0:=(hD 0 (ye D 0 rfl)).2.2.2 _ rfl
   clear D hD xk xl
   rw [if_pos (by rfl)];unfold Oper.wp;go_simp
   exact ⟨upd f 1 (J G 0),by simp [upd,g0],zf (H xy) (H HD) (by decide) ⟨fun h=>absurd h (by decide),fun h=>absurd h (by decide),fun h=>absurd h (by decide),yi rfl⟩⟩
  | 2,N =>
   obtain rfl:=yb N
   have g1:=(hD 1 (ye D 1 rfl)).2.2.2 _ rfl
   clear D hD xk xl
   rw [if_pos (by rfl)];unfold Oper.wp;go_simp
   exact ⟨upd f 2 (J G 1),by simp [upd,g1],zf (H xy) (H HD) (by decide) ⟨fun h=>absurd h (by decide),fun h=>absurd h (by decide),fun h=>absurd h (by decide),yi rfl⟩⟩
  | 3,N =>
   obtain rfl:=yb N
   have g2:=(hD 2 (ye D 2 rfl)).2.2.2 _ rfl
   have z1:=xl (U G 1) _ (H HC1)
   have z2:=xl (U G 2) _ (H oC)
   clear D hD xk xl
   rw [if_pos (by rfl)];unfold Oper.wp;go_simp
   exact ⟨upd f 3 (.agg #[I nx,vq]),by simp [upd,g2],zf (H xy) (H HD) (by decide) ⟨fun h=>absurd h (by decide),fun h=>absurd h (by decide),fun h=>absurd h (by decide),yi rfl⟩⟩
  | 5,N =>
   obtain rfl:=yb N
   have g4:=(hD 4 (ye D 4 rfl)).2.2.2 _ rfl
   clear D hD xk xl
   rw [if_pos (by rfl)];unfold Oper.wp;go_simp
   exact ⟨upd f 5 (J G 0),by simp [upd,g4],zf (H xy) (H HD) (by decide) ⟨fun h=>absurd h (by decide),fun h=>absurd h (by decide),fun h=>absurd h (by decide),yi rfl⟩⟩
  | 6,N =>
   obtain rfl:=yb N
   have g5:=(hD 5 (ye D 5 rfl)).2.2.2 _ rfl
   clear D hD xk xl
   rw [if_pos (by rfl)];unfold Oper.wp;go_simp
   exact ⟨upd f 6 (J G 4),by simp [upd,g5],zf (H xy) (H HD) (by decide) ⟨fun h=>absurd h (by decide),fun h=>absurd h (by decide),fun h=>absurd h (by decide),yi rfl⟩⟩
  | 7,N =>
   obtain rfl:=yb N
   have g6:=(hD 6 (ye D 6 rfl)).2.2.2 _ rfl
   clear D hD xk xl
   rw [if_pos (by rfl)];unfold Oper.wp;go_simp
   exact ⟨upd f 7 (J G 4),by simp [upd,g6],zf (H xy) (H HD) (by decide) ⟨fun h=>absurd h (by decide),fun h=>absurd h (by decide),fun h=>absurd h (by decide),yi rfl⟩⟩
  | 8,N =>
   obtain rfl:=yb N
   have g7:=(hD 7 (ye D 7 rfl)).2.2.2 _ rfl
   have z4:=xl (U G 4) _ (H HC4)
   clear D hD xk xl
   rw [if_pos (by rfl)];unfold Oper.wp;go_simp
   exact ⟨upd f 8 (I L),by simp [upd,g7],zf (H xy) (H HD) (by decide) ⟨fun h=>absurd h (by decide),fun h=>absurd h (by decide),fun h=>absurd h (by decide),yi rfl⟩⟩
  | 9,N =>
   obtain rfl:=yb N
   have g8:=(hD 8 (ye D 8 rfl)).2.2.2 _ rfl
   clear D hD xk xl
   rw [if_pos (by rfl)];unfold Oper.wp;go_simp
   refine (otherSide_any L xn).mono ?_
   rw [H HSD]
   rintro e w4 ⟨rfl,rfl⟩
   exact ⟨upd f 9 (I sd),by simp [upd,g8],zf (H xy) (H HD) (by decide) ⟨fun h=>absurd h (by decide),fun h=>absurd h (by decide),fun h=>absurd h (by decide),yi rfl⟩⟩
  | 10,N =>
   obtain rfl:=yb N
   have g3:=(hD 3 (ye D 3 rfl)).2.2.2 _ rfl
   have g9:=(hD 9 (ye D 9 rfl)).2.2.2 _ rfl
   have jr:=kK (by omega) (by omega)
   clear D hD xk xl
   rw [if_pos (by rfl)];unfold Oper.wp;go_simp
   by_cases uT:sd = 1
   ·subst uT
    refine (eX nx _ l xn (H ql) (H qL).len (H HLB)).mono ?_
    rintro e w4 ⟨b,rfl,ht,qi,xw⟩
    exact ⟨upd f 10 (bK b),by simp [upd,g3,g9],bm (H xy) (H HD) xw (by decide) (dtk_grow jr xw) ⟨fun _ _=>.inl ⟨rfl,b,rfl,ht⟩,fun h=>absurd h (by decide),fun h=>absurd h (by decide),fun u hu=>by cases hu⟩⟩
   ·skip
    refine (eE nx sd uT _ l xn (H ql) (H qL).len (H HLB)).mono ?_
    rintro e w4 ⟨b,rfl,ht,qi,xw⟩
    exact ⟨upd f 10 (bL b),by simp [upd,g3,g9],bm (H xy) (H HD) xw (by decide) (dtk_grow jr xw) ⟨fun _ _=>.inr ⟨uT,b,rfl,ht⟩,fun h=>absurd h (by decide),fun h=>absurd h (by decide),fun u hu=>by cases hu⟩⟩
  | 11,N =>
   obtain rfl:=yb N
   have jr:=kK (by omega) (by omega)
   rcases (hD 10 (ye D 10 rfl)).1 rfl jr with ⟨uT,b,qp,ht⟩ | ⟨uT,b,qp,ht⟩
   ·subst uT
    have HT:=M ht
    have hfl:=field0_bm b xn
    clear D hD xk xl ht
    rw [if_pos (by rfl)];unfold Oper.wp;go_simp
    exact ⟨upd f 11 (.func (.func 166) #[J b 0] #[]),by simp [upd,qp],zf (H xy) (H HD) (by decide) ⟨fun h=>absurd h (by decide),fun _ _=>.inl ⟨rfl,b,rfl,H HT⟩,fun h=>absurd h (by decide),fun u hu=>by cases hu⟩⟩
   ·skip
    have HT:=M ht
    have hfl:=field0_sm b xn
    clear D hD xk xl ht
    rw [if_pos (by rfl)];unfold Oper.wp;go_simp
    exact ⟨upd f 11 (.func (.func 170) #[J b 0] #[]),by simp [upd,qp],zf (H xy) (H HD) (by decide) ⟨fun h=>absurd h (by decide),fun _ _=>.inr ⟨uT,b,rfl,H HT⟩,fun h=>absurd h (by decide),fun u hu=>by cases hu⟩⟩
  | 12,N =>
   obtain rfl:=yb N
   have jr:=kK (by omega) (by omega)
   rcases (hD 11 (ye D 11 rfl)).2.1 rfl jr with ⟨uT,b,vE,ht⟩ | ⟨uT,b,vE,ht⟩
   ·subst uT
    have HT:=M ht
    have HE:Hid (frOf (quOf true (zt l 1)) = .tuple #[.agg (yw x.id x.side x.ticks x.left x.life x.tag).toArray,.bool fb]):=by show _ = _; have:=H HFR; simpa using this
    clear D hD xk xl ht
    rw [if_pos (by rfl)];unfold Oper.wp;go_simp
    refine (front_b b 1 (zt l 1) xn (H HT) (yN (List.length_filter_le _ _) (H qL).len)).mono ?_
    rw [H HE]
    rintro e w4 ⟨rfl,xw⟩
    exact ⟨upd f 12 (.tuple #[.agg (yw x.id x.side x.ticks x.left x.life x.tag).toArray,.bool fb]),by simp [upd,vE],bm (H xy) (H HD) xw (by decide) (dtk_grow jr xw) ⟨fun h=>absurd h (by decide),fun h=>absurd h (by decide),fun h=>absurd h (by decide),yi rfl⟩⟩
   ·skip
    have HT:=M ht
    have HE:Hid (frOf (quOf false (zt l sd)) = .tuple #[.agg (yw x.id x.side x.ticks x.left x.life x.tag).toArray,.bool fb]):=by show _ = _; have:=H HFR; rw [decide_eq_false uT] at this; exact this
    clear D hD xk xl ht
    rw [if_pos (by rfl)];unfold Oper.wp;go_simp
    refine (front_s b sd (zt l sd) xn (H HT) (yN (List.length_filter_le _ _) (H qL).len)).mono ?_
    rw [H HE]
    rintro e w4 ⟨rfl,xw⟩
    exact ⟨upd f 12 (.tuple #[.agg (yw x.id x.side x.ticks x.left x.life x.tag).toArray,.bool fb]),by simp [upd,vE],bm (H xy) (H HD) xw (by decide) (dtk_grow jr xw) ⟨fun h=>absurd h (by decide),fun h=>absurd h (by decide),fun h=>absurd h (by decide),yi rfl⟩⟩
  | 13,N =>
   obtain rfl:=yb N
   have xZ:=(hD 12 (ye D 12 rfl)).2.2.2 _ rfl
   clear D hD xk xl
   rw [if_pos (by rfl)];unfold Oper.wp;go_simp
   exact ⟨upd f 13 (.tuple #[.agg (yw x.id x.side x.ticks x.left x.life x.tag).toArray,.bool fb]),by simp [upd,xZ],zf (H xy) (H HD) (by decide) ⟨fun h=>absurd h (by decide),fun h=>absurd h (by decide),fun h=>absurd h (by decide),yi rfl⟩⟩
  | 14,N =>
   obtain rfl:=yb N
   have qJ:=(hD 13 (ye D 13 rfl)).2.2.2 _ rfl
   clear D hD xk xl
   rw [if_pos (by rfl)];unfold Oper.wp;go_simp
   exact ⟨upd f 14 (.agg (yw x.id x.side x.ticks x.left x.life x.tag).toArray),by simp [upd,qJ],zf (H xy) (H HD) (by decide) ⟨fun h=>absurd h (by decide),fun h=>absurd h (by decide),fun h=>absurd h (by decide),yi rfl⟩⟩
  | 15,N =>
   obtain rfl:=yb N
   have qJ:=(hD 13 (ye D 13 rfl)).2.2.2 _ rfl
   clear D hD xk xl
   rw [if_pos (by rfl)];unfold Oper.wp;go_simp
   exact ⟨upd f 15 (.bool fb),by simp [upd,qJ],zf (H xy) (H HD) (by decide) ⟨fun h=>absurd h (by decide),fun h=>absurd h (by decide),fun h=>absurd h (by decide),yi rfl⟩⟩
  | 16,N =>
   obtain rfl:=yb N
   have jr:=kK (by omega) (by omega)
   clear D hD xk xl
   rw [if_pos (by rfl)];unfold Oper.wp;go_simp
   have xw:=fE xn (A (yw 0 0 0 0 0 ⟨#[]⟩).toArray 78)
   exact ⟨upd f 16 (J xn.heap.size 0),by simp [upd],bm (H xy) (H HD) xw (by decide) (dtk_grow jr xw) ⟨fun h=>absurd h (by decide),fun h=>absurd h (by decide),fun _=>⟨xn.heap.size,rfl,(H xy).size,fun _=>⟨zY xn (yw 0 0 0 0 0 ⟨#[]⟩) _,by rw [zi]; omega⟩,fun h=>absurd h jr⟩,fun u hu=>by cases hu⟩⟩
  | 17,N =>
   obtain rfl:=yb N
   have jr:¬ xx[17]? = some true:=by rw [xq]; simp
   have jf:=(hD 14 (ye D 14 rfl)).2.2.2 _ rfl
   obtain ⟨pb,g16,hpb,xY,-⟩:=(hD 16 (ye D 16 rfl)).2.2.1 rfl
   obtain ⟨xY,ag⟩:=xY jr
   have HTH:=M xY
   obtain ⟨u0,y0,q0⟩:=zG xY 0 (by omega)
   obtain ⟨u1,y1,q1⟩:=zG xY 1 (by omega)
   obtain ⟨u2,y2,q2⟩:=zG xY 2 (by omega)
   obtain ⟨u3,y3,q3⟩:=zG xY 3 (by omega)
   obtain ⟨u4,y4,q4⟩:=zG xY 4 (by omega)
   obtain ⟨u5,y5,q5⟩:=zG xY 5 (by omega)
   simp only [Nat.zero_add] at y0 q0 y1 q1 y2 q2 y3 q3 y4 q4 y5 q5
   clear xY
   clear D hD xk xl
   rw [if_pos (by rfl)];unfold Oper.wp;go_simp
   refine ⟨upd f 17 Z,by simp [upd,jf,g16],rgx_last (zj pb hpb (yw x.id x.side x.ticks x.left x.life x.tag) 0 xn (H xy)) (H HD) xq (fun j O hxj h=>dtk_last j h (fun hj16=>?_)) ⟨fun h=>absurd h (by decide),fun h=>absurd h (by decide),fun h=>absurd h (by decide),fun u hu=>by cases hu⟩⟩
   rw [hj16]
   refine ⟨pb,g16,hpb,fun h=>absurd trivial h,fun _=>⟨?_,?_⟩⟩
   ·exact yX xn pb 0 (yw x.id x.side x.ticks x.left x.life x.tag) (fun j O=>H HTH j O)
   ·show pb < (xn.setCells pb 0 (yw x.id x.side x.ticks x.left x.life x.tag)).heap.size
    simp only [World.setCells,World.setCell,Array.size_modify]; exact ag
  | 18,N =>
   obtain rfl:=yb N
   have g15:=(hD 15 (ye D 15 rfl)).2.2.2 _ rfl
   clear D hD xk xl
   rw [if_pos (by rfl)];unfold Oper.wp;go_simp
   exact ⟨upd f 18 (.bool fb),by simp [upd,g15],zf (H xy) (H HD) (by decide) ⟨fun h=>absurd h (by decide),fun h=>absurd h (by decide),fun h=>absurd h (by decide),yi rfl⟩⟩
  | i + 19,N=>simp at N
theorem due_any {G B r:Nat} {vq:Value} {g:Gr} (w:World) (h:GS G B r w vq g) (hi:GI g):Calls Tryz.prog 32 #[J G 0] w fun e w'=>e = .returned (duV (dueG g))∧yn w w':=by
 have hsf:=sfl
 have hG:=h.lt
 obtain ⟨xz,HX⟩:=fJ w [I 0,I 0,I 0,I 0,I 0] 29
 have HS:Hid ((w.alloc (A #[I 0,I 0,I 0,I 0,I 0] 29)).heap.size = w.heap.size + 1):=by show _ = _; simp
 have HG:=M (zx h xz)
 have HB:=M xz
 have HI:=M hi
 clear h xz hi
 go_enter Tryz.func32,Tryz.ntmps32
 refine fI fun hR HK=>?_
 go_wp2_with fail
 refine H HK _ _ ?_
 clear HK
 generalize (w.alloc (A #[I 0,I 0,I 0,I 0,I 0] 29)) = W1 at HX HS HG HB ⊢
 have c3:W1.cell? (U G 3) = some (I g.bg):=R (H HG).box 3 rfl
 by_cases Q:g.bg = 1
 ·have HQ:Hid (duV (dueG g) = duV (takD g.l g.cm g.tk)):=by show _ = _; unfold dueG; rw [if_pos Q]
  have b1:(g.bg == 1) = true:=by simpa using Q
  clear Q
  go_wp2_with fail
  refine (takerDue_any W1 (H HG) (H HI).l0 (fun h0=>(H HI).good (.inr h0))).mono ?_
  rintro e w2 ⟨rfl,xJ⟩
  have xH:=M (zg (H HX) xJ (by have:=H HS; omega))
  have xu:=M (fH (H HB) xJ)
  clear xJ c3
  generalize hd:takD g.l g.cm g.tk = d at HQ ⊢
  clear hd
  obtain ⟨dk,di,dt,dq,dp⟩:=d
  unfold duV at HQ ⊢
  simp only at HQ ⊢
  have z0:=R (H xH) 0 rfl
  have z1:=R (H xH) 1 rfl
  have z2:=R (H xH) 2 rfl
  have z3:=R (H xH) 3 rfl
  have z4:=R (H xH) 4 rfl
  have f0:=zd (H xH) 0 (by decide)
  have f1:=zd (H xH) 1 (by decide)
  have f2:=zd (H xH) 2 (by decide)
  have f3:=zd (H xH) 3 (by decide)
  have f4:=zd (H xH) 4 (by decide)
  go_wp2_with fail
  try simp (config:={ zetaDelta:=true }) only [Exit.noGoto_ret]
  change bodyPost _ _ _ _ _ (World.setCells w2 w.heap.size 0 [I dk,I di,I dt,I dq,I dp])
  have xp:Hid ((World.setCells w2 w.heap.size 0 [I dk,I di,I dt,I dq,I dp]).rangeAt w.heap.size 0 [I dk,I di,I dt,I dq,I dp]∧yn w (World.setCells w2 w.heap.size 0 [I dk,I di,I dt,I dq,I dp])):=⟨(zF (H xH) (by simp only [List.length_cons,List.length_nil])).r,zj w.heap.size (by omega) [I dk,I di,I dt,I dq,I dp] 0 w2 (H xu)⟩
  generalize World.setCells w2 w.heap.size 0 [I dk,I di,I dt,I dq,I dp] = WE at xp ⊢
  obtain ⟨d0,d1,d2,d3,d4⟩:=yB (H xp).1
  try simp only [Exit.inBlock,Exit.then]
  refine bodyPost_ret (by simp [results,Tryz.results32,go_sem,d0,d1,d2,d3,d4]; try rfl) rfl ?_
  exact ⟨congrArg Ending.returned (H HQ).symm,(H xp).2⟩
 ·have b1:(g.bg == 1) = false:=by simpa using Q
  by_cases h8:g.bg = 8
  ·have HQ:Hid (duV (dueG g) = duV (dayD g.l)):=by show _ = _; unfold dueG; rw [if_neg Q,if_pos h8]
   have b8:(g.bg == 8) = true:=by simpa using h8
   clear Q h8
   go_wp2_with fail
   refine (dayDue_any W1 (H HG) (yN (H HI).len (by decide))).mono ?_
   rintro e w2 ⟨rfl,xJ⟩
   have xH:=M (zg (H HX) xJ (by have:=H HS; omega))
   have xu:=M (fH (H HB) xJ)
   clear xJ c3
   generalize hd:dayD g.l = d at HQ ⊢
   clear hd
   obtain ⟨dk,di,dt,dq,dp⟩:=d
   unfold duV at HQ ⊢
   simp only at HQ ⊢
   have z0:=R (H xH) 0 rfl
   have z1:=R (H xH) 1 rfl
   have z2:=R (H xH) 2 rfl
   have z3:=R (H xH) 3 rfl
   have z4:=R (H xH) 4 rfl
   have f0:=zd (H xH) 0 (by decide)
   have f1:=zd (H xH) 1 (by decide)
   have f2:=zd (H xH) 2 (by decide)
   have f3:=zd (H xH) 3 (by decide)
   have f4:=zd (H xH) 4 (by decide)
   go_wp2_with fail
   try simp (config:={ zetaDelta:=true }) only [Exit.noGoto_ret]
   change bodyPost _ _ _ _ _ (World.setCells w2 w.heap.size 0 [I dk,I di,I dt,I dq,I dp])
   have xp:Hid ((World.setCells w2 w.heap.size 0 [I dk,I di,I dt,I dq,I dp]).rangeAt w.heap.size 0 [I dk,I di,I dt,I dq,I dp]∧yn w (World.setCells w2 w.heap.size 0 [I dk,I di,I dt,I dq,I dp])):=⟨(zF (H xH) (by simp only [List.length_cons,List.length_nil])).r,zj w.heap.size (by omega) [I dk,I di,I dt,I dq,I dp] 0 w2 (H xu)⟩
   generalize World.setCells w2 w.heap.size 0 [I dk,I di,I dt,I dq,I dp] = WE at xp ⊢
   obtain ⟨d0,d1,d2,d3,d4⟩:=yB (H xp).1
   try simp only [Exit.inBlock,Exit.then]
   refine bodyPost_ret (by simp [results,Tryz.results32,go_sem,d0,d1,d2,d3,d4]; try rfl) rfl ?_
   exact ⟨congrArg Ending.returned (H HQ).symm,(H xp).2⟩
  ·have HQ:Hid (dueG g = zDu):=by show _ = _; unfold dueG; rw [if_neg Q,if_neg h8]
   have b8:(g.bg == 8) = false:=by simpa using h8
   clear Q h8
   have z0:=R (H HX) 0 rfl
   have z1:=R (H HX) 1 rfl
   have z2:=R (H HX) 2 rfl
   have z3:=R (H HX) 3 rfl
   have z4:=R (H HX) 4 rfl
   have f0:=zd (H HX) 0 (by decide)
   have f1:=zd (H HX) 1 (by decide)
   have f2:=zd (H HX) 2 (by decide)
   have f3:=zd (H HX) 3 (by decide)
   have f4:=zd (H HX) 4 (by decide)
   go_wp2_with fail
   try simp (config:={ zetaDelta:=true }) only [Exit.noGoto_ret]
   change bodyPost _ _ _ _ _ (World.setCells W1 w.heap.size 0 [I 0,I 0,I 0,I 0,I 0])
   have xp:Hid ((World.setCells W1 w.heap.size 0 [I 0,I 0,I 0,I 0,I 0]).rangeAt w.heap.size 0 [I 0,I 0,I 0,I 0,I 0]∧yn w (World.setCells W1 w.heap.size 0 [I 0,I 0,I 0,I 0,I 0])):=⟨(zF (H HX) (by simp only [List.length_cons,List.length_nil])).r,zj w.heap.size (by omega) [I 0,I 0,I 0,I 0,I 0] 0 W1 (H HB)⟩
   generalize World.setCells W1 w.heap.size 0 [I 0,I 0,I 0,I 0,I 0] = WE at xp ⊢
   obtain ⟨d0,d1,d2,d3,d4⟩:=yB (H xp).1
   try simp only [Exit.inBlock,Exit.then]
   refine bodyPost_ret (by simp [results,Tryz.results32,go_sem,d0,d1,d2,d3,d4]; try rfl) rfl ?_
   exact ⟨by rw [H HQ]; rfl,(H xp).2⟩
end Go.Proofs.YtnphbkgfjanmgaaGreatDoor
