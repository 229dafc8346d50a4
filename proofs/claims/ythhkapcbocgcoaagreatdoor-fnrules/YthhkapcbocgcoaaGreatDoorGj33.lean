/-
  What is due of a taker, by the program: proved by walking the method.
-/
import Derived.Test.YthhkapcbocgcoaaGreatDoorGj32
set_option linter.unusedVariables false
set_option maxHeartbeats 6400000
set_option maxRecDepth 100000
namespace Go.Proofs.YthhkapcbocgcoaaGreatDoor
open Go.RowKit
def DTk (vs:List (Option Value)) (base:World) (l:List Od) (sd:Int) (x:Od) (p:Prop) (V:World) (j:Nat) (v:Value):Prop :=
 (j = 10→¬ p→SdV V v l sd)∧(j = 11→¬ p→FrV V v l sd)∧(j = 16→∃ pb,v = I pb 0∧base.heap.size ≤ pb∧(¬ p→V.there pb 0 6∧pb < V.heap.size)∧(p→V.rangeAt pb 0 x.vs∧pb < V.heap.size))∧∀ u,vs[j]? = some (some u)→v = u
section
variable {vs:List (Option Value)} {base V V':World} {l:List Od} {sd:Int} {x:Od} {p:Prop}
theorem dtk_grow (hp:¬ p) (A:yn V V'):∀ j v,DTk vs base l sd x p V j v→DTk vs base l sd x p V' j v:=by
 rintro j v ⟨Q,D,X,h4⟩
 refine ⟨fun hj hp=>?_,fun hj hp=>?_,fun hj=>?_,h4⟩
 ·rcases Q hj hp with ⟨Q,b,D,X⟩ | ⟨Q,b,D,X⟩
  ·exact .inl ⟨Q,b,D,zu X (A.block _ (zG X))⟩
  ·exact .inr ⟨Q,b,D,zu X (A.block _ (zG X))⟩
 ·rcases D hj hp with ⟨Q,b,D,X⟩ | ⟨Q,b,D,X⟩
  ·exact .inl ⟨Q,b,D,zu X (A.block _ (zG X))⟩
  ·exact .inr ⟨Q,b,D,zu X (A.block _ (zG X))⟩
 ·obtain ⟨pb,h5,h6,h7,h8⟩:=X hj
  refine ⟨pb,h5,h6,fun hp=>?_,fun h=>absurd h hp⟩
  obtain ⟨h9,vi⟩:=h7 hp
  exact ⟨zk h9 A vi,yK vi A.size⟩
theorem dtk_last {v:Value}:∀ j,DTk vs base l sd x False V j v→(j = 16→∃ pb,v = I pb 0∧base.heap.size ≤ pb∧(¬ True→V'.there pb 0 6∧pb < V'.heap.size)∧(True→V'.rangeAt pb 0 x.vs∧pb < V'.heap.size))→DTk vs base l sd x True V' j v :=
 fun j h h16=>⟨fun _ hp=>absurd trivial hp,fun _ hp=>absurd trivial hp,h16,h.2.2.2⟩
end
theorem takerDue_any {G B r:Nat} {vq:Value} {g:Gr} (w:World) (h:GS G B r w vq g) (jk:0 ≤ g.tk.left) (hg:g.tk.left ≠ 0→GoodL g.l):Calls Tryz.prog 52 #[I G 0] w fun e w'=>e = .returned (duV (takD g.l g.cm g.tk))∧yn w w':=by
 have hsf:=sfl
 have hG:=h.lt
 obtain ⟨xR,HX⟩:=ie w [H 0,H 0,H 0,H 0,H 0] 39
 have HS:Hid ((w.alloc (O #[H 0,H 0,H 0,H 0,H 0] 39)).heap.size = w.heap.size + 1):=by show _ = _; simp
 have HG:=M (zx h xR)
 have HB:=M xR
 clear h xR
 obtain ⟨nx,l,bg,⟨ck,cs,ct,cl,cq,ci,cp,cg⟩,⟨ti,bp,tt,tl,bm,tg⟩⟩:=g
 simp only at jk hg ⊢
 go_enter Tryz.func52,Tryz.ntmps52
 refine ic fun xh HK=>?_
 go_wp2_with fail
 refine U HK _ _ ?_
 clear HK
 generalize (w.alloc (O #[H 0,H 0,H 0,H 0,H 0] 39)) = W1 at HX HS HG HB ⊢
 have c10:W1.cell? (J G 10) = some (H ti):=zb (U HG).box 10 rfl
 have c13:W1.cell? (J G 13) = some (H tl):=zb (U HG).box 13 rfl
 go_wp2_with fail
 go_quiet (fail)
 have jq:Hid (Bx (W1.drewN nq) w.heap.size [H 0,H 0,H 0,H 0,H 0]):=eH (U HX) nq
 have HGG:Hid (GS G B r (W1.drewN nq) vq ⟨nx,l,bg,⟨ck,cs,ct,cl,cq,ci,cp,cg⟩,⟨ti,bp,tt,tl,bm,tg⟩⟩):=zx (U HG) ⟨rfl,rfl,rfl,Nat.le_refl _,fun _ _=>rfl⟩
 have HBB:Hid (yn w (W1.drewN nq)):=dI (U HB) nq
 have kg:Hid ((W1.drewN nq).heap.size = w.heap.size + 1):=U HS
 clear HX HG HB HS c10 c13
 generalize W1.drewN nq = h3 at jq HGG HBB kg ⊢
 by_cases h0:tl = 0
 ·have HD:Hid (takD l ⟨ck,cs,ct,cl,cq,ci,cp,cg⟩ ⟨ti,bp,tt,tl,bm,tg⟩ = zDu):=by show _ = _; unfold takD; rw [if_pos h0]
  have b0:(tl == 0) = true:=by simpa using h0
  clear h0
  have z0:=zb (U jq) 0 rfl
  have z1:=zb (U jq) 1 rfl
  have z2:=zb (U jq) 2 rfl
  have z3:=zb (U jq) 3 rfl
  have z4:=zb (U jq) 4 rfl
  have f0:=zd (U jq) 0 (by decide)
  have f1:=zd (U jq) 1 (by decide)
  have f2:=zd (U jq) 2 (by decide)
  have f3:=zd (U jq) 3 (by decide)
  have f4:=zd (U jq) 4 (by decide)
  go_wp2_with fail
  try simp (config:={ zetaDelta:=true }) only [Exit.noGoto_ret]
  change bodyPost _ _ _ _ _ (World.setCells h3 w.heap.size 0 [H 0,H 0,H 0,H 0,H 0])
  have xq:Hid ((World.setCells h3 w.heap.size 0 [H 0,H 0,H 0,H 0,H 0]).rangeAt w.heap.size 0 [H 0,H 0,H 0,H 0,H 0]∧yn w (World.setCells h3 w.heap.size 0 [H 0,H 0,H 0,H 0,H 0])):=⟨(zB (U jq) (by simp only [List.length_cons,List.length_nil])).r,zj w.heap.size hU [H 0,H 0,H 0,H 0,H 0] 0 h3 (U HBB)⟩
  generalize World.setCells h3 w.heap.size 0 [H 0,H 0,H 0,H 0,H 0] = WE at xq ⊢
  obtain ⟨d0,d1,d2,d3,d4⟩:=yC (U xq).1
  try simp only [Exit.inBlock,Exit.then]
  refine bodyPost_ret (by simp [results,Tryz.results52,go_sem,d0,d1,d2,d3,d4]; try rfl) rfl ?_
  exact ⟨by rw [U HD]; rfl,(U xq).2⟩
 have kt:=M (hg h0)
 have b0:(tl == 0) = false:=by simpa using h0
 have HLB:Hid (∀ o' ∈ l,0 ≤ o'.left∧o'.left ≤ 1000000):=fun o' vu=>by have:=(U kt).left o' vu; omega
 have pE:=M (zV (U HGG).row (yO (U kt).len (by decide)))
 generalize ui:othS cs = sd
 have HSD:=M ui
 generalize hq:quOf (decide (sd = 1)) (zr l sd) = q
 have oF:=frOf_eq q
 generalize hx:hdO q = x at oF
 generalize oS:hdF q = fb at oF
 have HFR:Hid (frOf (quOf (decide (sd = 1)) (zr l sd)) = .tuple #[.agg (yw x.id x.side x.ticks x.left x.life x.tag).toArray,.bool fb]):=by show _ = _; rw [hq]; exact oF
 have HFO:Hid (bT l (othS cs) = if fb = true then some x else none):=by
  show _ = _
  rw [bT,ui,hq,← hx,← oS,hdO,hdF]
  cases q.head? <;> rfl
 clear ui hq oF hx oS q hg
 have oW:Hid (h3.cell? (J G 1) = some (H nx)):=zb (U HGG).box 1 rfl
 have kE:Hid (h3.cell? (J G 2) = some vq):=zb (U HGG).box 2 rfl
 have HC4:Hid (h3.cell? (J G 4) = some (H cs)):=zb (U HGG).box 4 rfl
 go_wp2_with fail
 refine zn (RG h3 (fun f=>{ tmps:=#[I G 0,Z,I w.heap.size 0,H ti,H tl,f 16,f 18,I G 0,I G 0,I G 10,I G 10,H ti,I G 0,I G 0,I G 10,I G 13,H tl,H tl,.bool false,Z,f 13,f 0,f 1,f 2,f 3,f 4,f 5,f 6,f 7,f 8,f 9,f 10,f 11,f 12,f 14,f 15,Z,Z,Z,Z,Z,Z,Z,Z,Z,Z,Z,Z,Z,Z,Z,Z,Z,Z,Z,Z,Z,Z,Z,Z,Z,Z,Z,Z,Z,Z,Z,Z],defers:=[] }) 17 (DTk [some (I G 0),some (I G 0),some (I G 1),some (.agg #[H nx,vq]),some (I G 0),some (I G 0),some (I G 4),some (I G 4),some (H cs),some (H sd),none,none,some (.tuple #[.agg (yw x.id x.side x.ticks x.left x.life x.tag).toArray,.bool fb]),some (.tuple #[.agg (yw x.id x.side x.ticks x.left x.life x.tag).toArray,.bool fb]),some (.agg (yw x.id x.side x.ticks x.left x.life x.tag).toArray),some (.bool fb),none,none,some (.bool fb)] h3 l sd x)) (by kernel_rfl) ?_ ?_ ?_
 ·exact ⟨fun _=>Z,rfl,⟨rfl,rfl,rfl,Nat.le_refl _,fun _ _=>rfl⟩,fun j hj=>by rw [yJ] at hj; split at hj <;> simp at hj⟩
 ·rintro xx hb V ⟨f,rfl,xi,hD⟩ hx xN
  have xp:=zY xN hx (by kernel_rfl)
  have k17:xx[17]? = some true:=xp 17 (by simp)
  have g18:f 18 = .bool fb:=(hD 18 (xp 18 (by simp))).2.2.2 _ rfl
  obtain ⟨pb,g16,hpb,-,vU⟩:=(hD 16 (xp 16 (by simp))).2.2.1 rfl
  obtain ⟨aX,aW⟩:=vU k17
  have uS:=M (zx (U HGG) xi)
  have hss:=U kg
  have jq:=M (zl (U jq) xi (by omega))
  have xG:=M (ia (U HBB) xi)
  have HRG:=M aX
  dsimp only
  simp only [g18,g16]
  generalize f 0 = v0,f 1 = v1,f 2 = v2,f 3 = v3,f 4 = v4,f 5 = v5,f 6 = v6,f 7 = v7,f 8 = v8,f 9 = v9,f 10 = v10,f 11 = v11,f 12 = v12,f 13 = v13,f 14 = v14,f 15 = v15
  clear hD xp xN hx k17 vU xi g16 g18 aX f xx oW kE HC4 hss HGG HBB kg
  cases fb
  ·have HFO:Hid (bT l (othS cs) = none):=by show _ = _; have:=U HFO; simpa using this
   have HD:Hid (takD l ⟨ck,cs,ct,cl,cq,ci,cp,cg⟩ ⟨ti,bp,tt,tl,bm,tg⟩ = lftD ⟨ck,cs,ct,cl,cq,ci,cp,cg⟩ ⟨ti,bp,tt,tl,bm,tg⟩):=by show _ = _; unfold takD; rw [if_neg h0]; simp only [U HFO]
   clear h0
   go_wp2_with fail
   go_quiet (fail)
   have qX:Hid (Bx (V.drewN nq) w.heap.size [H 0,H 0,H 0,H 0,H 0]):=eH (U jq) _
   have uu:Hid (GS G B r (V.drewN nq) vq ⟨nx,l,bg,⟨ck,cs,ct,cl,cq,ci,cp,cg⟩,⟨ti,bp,tt,tl,bm,tg⟩⟩):=zx (U uS) ⟨rfl,rfl,rfl,Nat.le_refl _,fun _ _=>rfl⟩
   have uE:Hid (yn w (V.drewN nq)):=dI (U xG) _
   have HZ5:Hid (w.heap.size < (V.drewN nq).heap.size):=yL _ _ (zb (U qX) 0 rfl)
   clear jq uS xG
   generalize V.drewN nq = ho at qX uu uE HZ5 ⊢
   have c4:=zb (U uu).box 4 rfl
   have c5:=zb (U uu).box 5 rfl
   have c6:=zb (U uu).box 6 rfl
   have c7:=zb (U uu).box 7 rfl
   have c8:=zb (U uu).box 8 rfl
   have c9:=zb (U uu).box 9 rfl
   go_wp2_with fail
   refine (fG ⟨ck,cs,ct,cl,cq,ci,cp,cg⟩ ho).mono ?_
   rintro e w5 ⟨rfl,uj⟩
   have uT:=M (zl (U qX) uj (by have:=U HZ5; omega))
   have vV:=M (ia (U uE) uj)
   clear uj c4 c5 c6 c7 c8 c9 qX uE uu
   have z0:=zb (U uT) 0 rfl
   have z1:=zb (U uT) 1 rfl
   have z2:=zb (U uT) 2 rfl
   have z3:=zb (U uT) 3 rfl
   have z4:=zb (U uT) 4 rfl
   have f0:=zd (U uT) 0 (by decide)
   have f1:=zd (U uT) 1 (by decide)
   have f2:=zd (U uT) 2 (by decide)
   have f3:=zd (U uT) 3 (by decide)
   have f4:=zd (U uT) 4 (by decide)
   have HQ:Hid (lftD ⟨ck,cs,ct,cl,cq,ci,cp,cg⟩ ⟨ti,bp,tt,tl,bm,tg⟩ = if bR ct = true then ⟨4,ti,0,tl,0⟩ else ⟨5,ti,0,tl,0⟩):=rfl
   cases hre:bR ct
   ·have HQ2:Hid (lftD ⟨ck,cs,ct,cl,cq,ci,cp,cg⟩ ⟨ti,bp,tt,tl,bm,tg⟩ = ⟨5,ti,0,tl,0⟩):=by show _ = _; rw [U HQ,hre]; rfl
    clear hre HQ
    go_wp2_with fail
    try simp (config:={ zetaDelta:=true }) only [Exit.noGoto_ret]
    change bodyPost _ _ _ _ _ (World.setCells w5 w.heap.size 0 [H 5,H ti,H 0,H tl,H 0])
    have xq:Hid ((World.setCells w5 w.heap.size 0 [H 5,H ti,H 0,H tl,H 0]).rangeAt w.heap.size 0 [H 5,H ti,H 0,H tl,H 0]∧yn w (World.setCells w5 w.heap.size 0 [H 5,H ti,H 0,H tl,H 0])):=⟨(zB (U uT) (by simp only [List.length_cons,List.length_nil])).r,zj w.heap.size hU [H 5,H ti,H 0,H tl,H 0] 0 w5 (U vV)⟩
    generalize World.setCells w5 w.heap.size 0 [H 5,H ti,H 0,H tl,H 0] = WE at xq ⊢
    obtain ⟨d0,d1,d2,d3,d4⟩:=yC (U xq).1
    try simp only [Exit.inBlock,Exit.then]
    refine bodyPost_ret (by simp [results,Tryz.results52,go_sem,d0,d1,d2,d3,d4]; try rfl) rfl ?_
    exact ⟨by rw [U HD,U HQ2]; rfl,(U xq).2⟩
   ·have HQ2:Hid (lftD ⟨ck,cs,ct,cl,cq,ci,cp,cg⟩ ⟨ti,bp,tt,tl,bm,tg⟩ = ⟨4,ti,0,tl,0⟩):=by show _ = _; rw [U HQ,hre]; rfl
    clear hre HQ
    go_wp2_with fail
    try simp (config:={ zetaDelta:=true }) only [Exit.noGoto_ret]
    change bodyPost _ _ _ _ _ (World.setCells w5 w.heap.size 0 [H 4,H ti,H 0,H tl,H 0])
    have xq:Hid ((World.setCells w5 w.heap.size 0 [H 4,H ti,H 0,H tl,H 0]).rangeAt w.heap.size 0 [H 4,H ti,H 0,H tl,H 0]∧yn w (World.setCells w5 w.heap.size 0 [H 4,H ti,H 0,H tl,H 0])):=⟨(zB (U uT) (by simp only [List.length_cons,List.length_nil])).r,zj w.heap.size hU [H 4,H ti,H 0,H tl,H 0] 0 w5 (U vV)⟩
    generalize World.setCells w5 w.heap.size 0 [H 4,H ti,H 0,H tl,H 0] = WE at xq ⊢
    obtain ⟨d0,d1,d2,d3,d4⟩:=yC (U xq).1
    try simp only [Exit.inBlock,Exit.then]
    refine bodyPost_ret (by simp [results,Tryz.results52,go_sem,d0,d1,d2,d3,d4]; try rfl) rfl ?_
    exact ⟨by rw [U HD,U HQ2]; rfl,(U xq).2⟩
  ·have HFS:Hid (bT l (othS cs) = some x):=by show _ = _; have:=U HFO; simpa using this
   have uk:Hid (GS G B r V.drew vq ⟨nx,l,bg,⟨ck,cs,ct,cl,cq,ci,cp,cg⟩,⟨ti,bp,tt,tl,bm,tg⟩⟩):=zx (U uS) ⟨rfl,rfl,rfl,Nat.le_refl _,fun _ _=>rfl⟩
   have HRG4:Hid (V.drew.rangeAt pb 0 x.vs):=U HRG
   have c4:=zb (U uk).box 4 rfl
   have c5:=zb (U uk).box 5 rfl
   have c6:=zb (U uk).box 6 rfl
   have c7:=zb (U uk).box 7 rfl
   have c8:=zb (U uk).box 8 rfl
   have c9:=zb (U uk).box 9 rfl
   obtain ⟨p0,p1,p2,p3,p4,p5⟩:=zC (U HRG4)
   simp only [Nat.zero_add] at p0 p1 p2 p3 p4 p5
   go_wp2_with fail
   refine zS 7 (by kernel_rfl) (by kernel_rfl) ?_
   simp only [yU,List.take_zero,yV,List.drop_zero]
   repeat still_step
   refine wpStill_nil ?_
   go_wp2_with fail
   refine (meets_any ⟨ck,cs,ct,cl,cq,ci,cp,cg⟩ x V.drew).mono ?_
   rintro e ho ⟨rfl,uj⟩
   have hzV:w.heap.size < V.heap.size:=yL _ _ (zb (U jq) 0 rfl)
   have qX:=M (zl (cf (U jq)) uj hzV)
   have uu:=M (zx (U uk) uj)
   have uE:Hid (yn w ho):=⟨uj.os.trans (U xG).os,uj.tape.trans (U xG).tape,uj.output.trans (U xG).output,yO (U xG).size uj.size,fun k E=>(uj.block k (Nat.lt_trans E hzV)).trans ((U xG).block k E)⟩
   have HZ5:Hid (w.heap.size < ho.heap.size):=yK hzV uj.size
   obtain ⟨p0,p1,p2,p3,p4,p5⟩:=zC (zc (U HRG4) uj aW)
   simp only [Nat.zero_add] at p0 p1 p2 p3 p4 p5
   clear c4 c5 c6 c7 c8 c9 uj HRG4 uk hzV jq uS xG hsf
   cases hme:cj ⟨ck,cs,ct,cl,cq,ci,cp,cg⟩ x
   ·have HD:Hid (takD l ⟨ck,cs,ct,cl,cq,ci,cp,cg⟩ ⟨ti,bp,tt,tl,bm,tg⟩ = lftD ⟨ck,cs,ct,cl,cq,ci,cp,cg⟩ ⟨ti,bp,tt,tl,bm,tg⟩):=by show _ = _; unfold takD; rw [if_neg h0]; simp only [U HFS,hme]; rfl
    clear h0 hme p0 p1 p2 p3 p4 p5
    have hsf:=sfl
    have c4:=zb (U uu).box 4 rfl
    have c5:=zb (U uu).box 5 rfl
    have c6:=zb (U uu).box 6 rfl
    have c7:=zb (U uu).box 7 rfl
    have c8:=zb (U uu).box 8 rfl
    have c9:=zb (U uu).box 9 rfl
    go_wp2_with fail
    refine (fG ⟨ck,cs,ct,cl,cq,ci,cp,cg⟩ ho).mono ?_
    rintro e w5 ⟨rfl,uj⟩
    have uT:=M (zl (U qX) uj (by have:=U HZ5; omega))
    have vV:=M (ia (U uE) uj)
    clear uj c4 c5 c6 c7 c8 c9 qX uE uu
    have z0:=zb (U uT) 0 rfl
    have z1:=zb (U uT) 1 rfl
    have z2:=zb (U uT) 2 rfl
    have z3:=zb (U uT) 3 rfl
    have z4:=zb (U uT) 4 rfl
    have f0:=zd (U uT) 0 (by decide)
    have f1:=zd (U uT) 1 (by decide)
    have f2:=zd (U uT) 2 (by decide)
    have f3:=zd (U uT) 3 (by decide)
    have f4:=zd (U uT) 4 (by decide)
    have HQ:Hid (lftD ⟨ck,cs,ct,cl,cq,ci,cp,cg⟩ ⟨ti,bp,tt,tl,bm,tg⟩ = if bR ct = true then ⟨4,ti,0,tl,0⟩ else ⟨5,ti,0,tl,0⟩):=rfl
    cases hre:bR ct
    ·have HQ2:Hid (lftD ⟨ck,cs,ct,cl,cq,ci,cp,cg⟩ ⟨ti,bp,tt,tl,bm,tg⟩ = ⟨5,ti,0,tl,0⟩):=by show _ = _; rw [U HQ,hre]; rfl
     clear hre HQ
     go_wp2_with fail
     try simp (config:={ zetaDelta:=true }) only [Exit.noGoto_ret]
     change bodyPost _ _ _ _ _ (World.setCells w5 w.heap.size 0 [H 5,H ti,H 0,H tl,H 0])
     have xq:Hid ((World.setCells w5 w.heap.size 0 [H 5,H ti,H 0,H tl,H 0]).rangeAt w.heap.size 0 [H 5,H ti,H 0,H tl,H 0]∧yn w (World.setCells w5 w.heap.size 0 [H 5,H ti,H 0,H tl,H 0])):=⟨(zB (U uT) (by simp only [List.length_cons,List.length_nil])).r,zj w.heap.size hU [H 5,H ti,H 0,H tl,H 0] 0 w5 (U vV)⟩
     generalize World.setCells w5 w.heap.size 0 [H 5,H ti,H 0,H tl,H 0] = WE at xq ⊢
     obtain ⟨d0,d1,d2,d3,d4⟩:=yC (U xq).1
     try simp only [Exit.inBlock,Exit.then]
     refine bodyPost_ret (by simp [results,Tryz.results52,go_sem,d0,d1,d2,d3,d4]; try rfl) rfl ?_
     exact ⟨by rw [U HD,U HQ2]; rfl,(U xq).2⟩
    ·have HQ2:Hid (lftD ⟨ck,cs,ct,cl,cq,ci,cp,cg⟩ ⟨ti,bp,tt,tl,bm,tg⟩ = ⟨4,ti,0,tl,0⟩):=by show _ = _; rw [U HQ,hre]; rfl
     clear hre HQ
     go_wp2_with fail
     try simp (config:={ zetaDelta:=true }) only [Exit.noGoto_ret]
     change bodyPost _ _ _ _ _ (World.setCells w5 w.heap.size 0 [H 4,H ti,H 0,H tl,H 0])
     have xq:Hid ((World.setCells w5 w.heap.size 0 [H 4,H ti,H 0,H tl,H 0]).rangeAt w.heap.size 0 [H 4,H ti,H 0,H tl,H 0]∧yn w (World.setCells w5 w.heap.size 0 [H 4,H ti,H 0,H tl,H 0])):=⟨(zB (U uT) (by simp only [List.length_cons,List.length_nil])).r,zj w.heap.size hU [H 4,H ti,H 0,H tl,H 0] 0 w5 (U vV)⟩
     generalize World.setCells w5 w.heap.size 0 [H 4,H ti,H 0,H tl,H 0] = WE at xq ⊢
     obtain ⟨d0,d1,d2,d3,d4⟩:=yC (U xq).1
     try simp only [Exit.inBlock,Exit.then]
     refine bodyPost_ret (by simp [results,Tryz.results52,go_sem,d0,d1,d2,d3,d4]; try rfl) rfl ?_
     exact ⟨by rw [U HD,U HQ2]; rfl,(U xq).2⟩
   ·have HD:Hid (takD l ⟨ck,cs,ct,cl,cq,ci,cp,cg⟩ ⟨ti,bp,tt,tl,bm,tg⟩ = ⟨3,ti,x.id,min tl x.left,x.ticks⟩):=by show _ = _; unfold takD; rw [if_neg h0]; simp only [U HFS,hme]; rfl
    clear h0 hme uu
    generalize hq:min tl x.left = qty at HD
    have hmin:∀ W,(Builtin.min_ #[3,3] 3 #[H tl,H x.left]).run Tryz.prog W = .ok (H qty) W:=fun W=>by
     rw [← hq]
     by_cases qx:tl ≤ x.left
     ·rw [Int.min_eq_left qx]; go_simp; omega
     ·rw [Int.min_eq_right (by omega)]; go_simp
    clear hq
    have z0:=zb (U qX) 0 rfl
    have z1:=zb (U qX) 1 rfl
    have z2:=zb (U qX) 2 rfl
    have z3:=zb (U qX) 3 rfl
    have z4:=zb (U qX) 4 rfl
    have f0:=zd (U qX) 0 (by decide)
    have f1:=zd (U qX) 1 (by decide)
    have f2:=zd (U qX) 2 (by decide)
    have f3:=zd (U qX) 3 (by decide)
    have f4:=zd (U qX) 4 (by decide)
    go_wp2_with fail
    try simp (config:={ zetaDelta:=true }) only [Exit.noGoto_ret]
    change bodyPost _ _ _ _ _ (World.setCells ho w.heap.size 0 [H 3,H ti,H x.id,H qty,H x.ticks])
    have xq:Hid ((World.setCells ho w.heap.size 0 [H 3,H ti,H x.id,H qty,H x.ticks]).rangeAt w.heap.size 0 [H 3,H ti,H x.id,H qty,H x.ticks]∧yn w (World.setCells ho w.heap.size 0 [H 3,H ti,H x.id,H qty,H x.ticks])):=⟨(zB (U qX) (by simp only [List.length_cons,List.length_nil])).r,zj w.heap.size hU [H 3,H ti,H x.id,H qty,H x.ticks] 0 ho (U uE)⟩
    generalize World.setCells ho w.heap.size 0 [H 3,H ti,H x.id,H qty,H x.ticks] = WE at xq ⊢
    obtain ⟨d0,d1,d2,d3,d4⟩:=yC (U xq).1
    try simp only [Exit.inBlock,Exit.then]
    refine bodyPost_ret (by simp [results,Tryz.results52,go_sem,d0,d1,d2,d3,d4]; try rfl) rfl ?_
    exact ⟨by rw [U HD]; rfl,(U xq).2⟩
 ·rintro xx hb V i op ⟨f,rfl,xi,hD⟩ xo hx Y xu K
  have kX:i ≠ 15→i < 17→¬ xx[17]? = some true:=fun xC xM jK=>by
   have h16:=yf xo 17 rfl jK 16 rfl
   have oy:=yf xo 17 rfl jK 14 rfl
   have jd:=yf xo 14 rfl oy 13 rfl
   have vX:=yf xo 13 rfl jd 12 rfl
   have vK:=yf xo 12 rfl vX 11 rfl
   have vi:=yf xo 11 rfl vK 10 rfl
   have X:=yf xo 10 rfl vi 3 rfl
   have h9:=yf xo 10 rfl vi 9 rfl
   have D:=yf xo 3 rfl X 2 rfl
   have Q:=yf xo 2 rfl D 1 rfl
   have h0:=yf xo 1 rfl Q 0 rfl
   have h8:=yf xo 9 rfl h9 8 rfl
   have h7:=yf xo 8 rfl h8 7 rfl
   have h6:=yf xo 7 rfl h7 6 rfl
   have h5:=yf xo 6 rfl h6 5 rfl
   have h4:=yf xo 5 rfl h5 4 rfl
   have vr:∀ j,j ≠ 15→j < 17→xx[j]? = some true:=fun j jM hj=>by
    rcases (by omega:j = 0 ∨ j = 1 ∨ j = 2 ∨ j = 3 ∨ j = 4 ∨ j = 5 ∨ j = 6 ∨ j = 7 ∨ j = 8 ∨ j = 9 ∨ j = 10 ∨ j = 11 ∨ j = 12 ∨ j = 13 ∨ j = 14 ∨ j = 16) with rfl | rfl | rfl | rfl | rfl | rfl | rfl | rfl | rfl | rfl | rfl | rfl | rfl | rfl | rfl | rfl <;> assumption
   rw [vr i xC xM] at xu; cases xu
  clear xo
  have xw:=M xi
  have HD:=M hD
  have HRV:=M (zh (U pE) xi hU)
  have xj:∀ (p:Addr) u,h3.cell? p = some u→V.cell? p = some u:=fun p u hu=>(xi.cell (yL h3 _ hu)).trans hu
  match i,Y with
  | 0,Y | 4,Y =>
   obtain rfl:=ya Y
   clear K hD xi xj
   rw [if_pos (by rfl)];unfold Oper.wp;go_simp
   exact ⟨upd f _ (I G 0),by simp [upd],zf (U xw) (U HD) (by decide) ⟨fun h=>absurd h (by decide),fun h=>absurd h (by decide),fun h=>absurd h (by decide),yi rfl⟩⟩
  | 1,Y =>
   obtain rfl:=ya Y
   have g0:=(hD 0 (ye K 0 rfl)).2.2.2 _ rfl
   clear K hD xi xj
   rw [if_pos (by rfl)];unfold Oper.wp;go_simp
   exact ⟨upd f 1 (I G 0),by simp [upd,g0],zf (U xw) (U HD) (by decide) ⟨fun h=>absurd h (by decide),fun h=>absurd h (by decide),fun h=>absurd h (by decide),yi rfl⟩⟩
  | 2,Y =>
   obtain rfl:=ya Y
   have g1:=(hD 1 (ye K 1 rfl)).2.2.2 _ rfl
   clear K hD xi xj
   rw [if_pos (by rfl)];unfold Oper.wp;go_simp
   exact ⟨upd f 2 (I G 1),by simp [upd,g1],zf (U xw) (U HD) (by decide) ⟨fun h=>absurd h (by decide),fun h=>absurd h (by decide),fun h=>absurd h (by decide),yi rfl⟩⟩
  | 3,Y =>
   obtain rfl:=ya Y
   have g2:=(hD 2 (ye K 2 rfl)).2.2.2 _ rfl
   have z1:=xj (J G 1) _ (U oW)
   have z2:=xj (J G 2) _ (U kE)
   clear K hD xi xj
   rw [if_pos (by rfl)];unfold Oper.wp;go_simp
   exact ⟨upd f 3 (.agg #[H nx,vq]),by simp [upd,g2],zf (U xw) (U HD) (by decide) ⟨fun h=>absurd h (by decide),fun h=>absurd h (by decide),fun h=>absurd h (by decide),yi rfl⟩⟩
  | 5,Y =>
   obtain rfl:=ya Y
   have g4:=(hD 4 (ye K 4 rfl)).2.2.2 _ rfl
   clear K hD xi xj
   rw [if_pos (by rfl)];unfold Oper.wp;go_simp
   exact ⟨upd f 5 (I G 0),by simp [upd,g4],zf (U xw) (U HD) (by decide) ⟨fun h=>absurd h (by decide),fun h=>absurd h (by decide),fun h=>absurd h (by decide),yi rfl⟩⟩
  | 6,Y =>
   obtain rfl:=ya Y
   have g5:=(hD 5 (ye K 5 rfl)).2.2.2 _ rfl
   clear K hD xi xj
   rw [if_pos (by rfl)];unfold Oper.wp;go_simp
   exact ⟨upd f 6 (I G 4),by simp [upd,g5],zf (U xw) (U HD) (by decide) ⟨fun h=>absurd h (by decide),fun h=>absurd h (by decide),fun h=>absurd h (by decide),yi rfl⟩⟩
  | 7,Y =>
   obtain rfl:=ya Y
   have g6:=(hD 6 (ye K 6 rfl)).2.2.2 _ rfl
   clear K hD xi xj
   rw [if_pos (by rfl)];unfold Oper.wp;go_simp
   exact ⟨upd f 7 (I G 4),by simp [upd,g6],zf (U xw) (U HD) (by decide) ⟨fun h=>absurd h (by decide),fun h=>absurd h (by decide),fun h=>absurd h (by decide),yi rfl⟩⟩
  | 8,Y =>
   obtain rfl:=ya Y
   have g7:=(hD 7 (ye K 7 rfl)).2.2.2 _ rfl
   have z4:=xj (J G 4) _ (U HC4)
   clear K hD xi xj
   rw [if_pos (by rfl)];unfold Oper.wp;go_simp
   exact ⟨upd f 8 (H cs),by simp [upd,g7],zf (U xw) (U HD) (by decide) ⟨fun h=>absurd h (by decide),fun h=>absurd h (by decide),fun h=>absurd h (by decide),yi rfl⟩⟩
  | 9,Y =>
   obtain rfl:=ya Y
   have g8:=(hD 8 (ye K 8 rfl)).2.2.2 _ rfl
   clear K hD xi xj
   rw [if_pos (by rfl)];unfold Oper.wp;go_simp
   refine (otherSide_any cs V).mono ?_
   rw [U HSD]
   rintro e w4 ⟨rfl,rfl⟩
   exact ⟨upd f 9 (H sd),by simp [upd,g8],zf (U xw) (U HD) (by decide) ⟨fun h=>absurd h (by decide),fun h=>absurd h (by decide),fun h=>absurd h (by decide),yi rfl⟩⟩
  | 10,Y =>
   obtain rfl:=ya Y
   have g3:=(hD 3 (ye K 3 rfl)).2.2.2 _ rfl
   have g9:=(hD 9 (ye K 9 rfl)).2.2.2 _ rfl
   have jw:=kX (by omega) (by omega)
   clear K hD xi xj
   rw [if_pos (by rfl)];unfold Oper.wp;go_simp
   by_cases ui:sd = 1
   ·subst ui
    refine (gG nx _ l V (U HRV) (U kt).len (U HLB)).mono ?_
    rintro e w4 ⟨b,rfl,ht,qx,xy⟩
    exact ⟨upd f 10 (cP b),by simp [upd,g3,g9],cC (U xw) (U HD) xy (by decide) (dtk_grow jw xy) ⟨fun _ _=>.inl ⟨rfl,b,rfl,ht⟩,fun h=>absurd h (by decide),fun h=>absurd h (by decide),fun u hu=>by cases hu⟩⟩
   ·skip
    refine (gw nx sd ui _ l V (U HRV) (U kt).len (U HLB)).mono ?_
    rintro e w4 ⟨b,rfl,ht,qx,xy⟩
    exact ⟨upd f 10 (cQ b),by simp [upd,g3,g9],cC (U xw) (U HD) xy (by decide) (dtk_grow jw xy) ⟨fun _ _=>.inr ⟨ui,b,rfl,ht⟩,fun h=>absurd h (by decide),fun h=>absurd h (by decide),fun u hu=>by cases hu⟩⟩
  | 11,Y =>
   obtain rfl:=ya Y
   have jw:=kX (by omega) (by omega)
   rcases (hD 10 (ye K 10 rfl)).1 rfl jw with ⟨ui,b,qL,ht⟩ | ⟨ui,b,qL,ht⟩
   ·subst ui
    have HT:=M ht
    have hfl:=field0_bm b V
    clear K hD xi xj ht
    rw [if_pos (by rfl)];unfold Oper.wp;go_simp
    exact ⟨upd f 11 (.func (.func 164) #[I b 0] #[]),by simp [upd,qL],zf (U xw) (U HD) (by decide) ⟨fun h=>absurd h (by decide),fun _ _=>.inl ⟨rfl,b,rfl,U HT⟩,fun h=>absurd h (by decide),fun u hu=>by cases hu⟩⟩
   ·skip
    have HT:=M ht
    have hfl:=field0_sm b V
    clear K hD xi xj ht
    rw [if_pos (by rfl)];unfold Oper.wp;go_simp
    exact ⟨upd f 11 (.func (.func 168) #[I b 0] #[]),by simp [upd,qL],zf (U xw) (U HD) (by decide) ⟨fun h=>absurd h (by decide),fun _ _=>.inr ⟨ui,b,rfl,U HT⟩,fun h=>absurd h (by decide),fun u hu=>by cases hu⟩⟩
  | 12,Y =>
   obtain rfl:=ya Y
   have jw:=kX (by omega) (by omega)
   rcases (hD 11 (ye K 11 rfl)).2.1 rfl jw with ⟨ui,b,ql,ht⟩ | ⟨ui,b,ql,ht⟩
   ·subst ui
    have HT:=M ht
    have HE:Hid (frOf (quOf true (zr l 1)) = .tuple #[.agg (yw x.id x.side x.ticks x.left x.life x.tag).toArray,.bool fb]):=by show _ = _; have:=U HFR; simpa using this
    clear K hD xi xj ht
    rw [if_pos (by rfl)];unfold Oper.wp;go_simp
    refine (front_b b 1 (zr l 1) V (U HT) (yO (List.length_filter_le _ _) (U kt).len)).mono ?_
    rw [U HE]
    rintro e w4 ⟨rfl,xy⟩
    exact ⟨upd f 12 (.tuple #[.agg (yw x.id x.side x.ticks x.left x.life x.tag).toArray,.bool fb]),by simp [upd,ql],cC (U xw) (U HD) xy (by decide) (dtk_grow jw xy) ⟨fun h=>absurd h (by decide),fun h=>absurd h (by decide),fun h=>absurd h (by decide),yi rfl⟩⟩
   ·skip
    have HT:=M ht
    have HE:Hid (frOf (quOf false (zr l sd)) = .tuple #[.agg (yw x.id x.side x.ticks x.left x.life x.tag).toArray,.bool fb]):=by show _ = _; have:=U HFR; rw [decide_eq_false ui] at this; exact this
    clear K hD xi xj ht
    rw [if_pos (by rfl)];unfold Oper.wp;go_simp
    refine (front_s b sd (zr l sd) V (U HT) (yO (List.length_filter_le _ _) (U kt).len)).mono ?_
    rw [U HE]
    rintro e w4 ⟨rfl,xy⟩
    exact ⟨upd f 12 (.tuple #[.agg (yw x.id x.side x.ticks x.left x.life x.tag).toArray,.bool fb]),by simp [upd,ql],cC (U xw) (U HD) xy (by decide) (dtk_grow jw xy) ⟨fun h=>absurd h (by decide),fun h=>absurd h (by decide),fun h=>absurd h (by decide),yi rfl⟩⟩
  | 13,Y =>
   obtain rfl:=ya Y
   have ud:=(hD 12 (ye K 12 rfl)).2.2.2 _ rfl
   clear K hD xi xj
   rw [if_pos (by rfl)];unfold Oper.wp;go_simp
   exact ⟨upd f 13 (.tuple #[.agg (yw x.id x.side x.ticks x.left x.life x.tag).toArray,.bool fb]),by simp [upd,ud],zf (U xw) (U HD) (by decide) ⟨fun h=>absurd h (by decide),fun h=>absurd h (by decide),fun h=>absurd h (by decide),yi rfl⟩⟩
  | 14,Y =>
   obtain rfl:=ya Y
   have kB:=(hD 13 (ye K 13 rfl)).2.2.2 _ rfl
   clear K hD xi xj
   rw [if_pos (by rfl)];unfold Oper.wp;go_simp
   exact ⟨upd f 14 (.agg (yw x.id x.side x.ticks x.left x.life x.tag).toArray),by simp [upd,kB],zf (U xw) (U HD) (by decide) ⟨fun h=>absurd h (by decide),fun h=>absurd h (by decide),fun h=>absurd h (by decide),yi rfl⟩⟩
  | 15,Y =>
   obtain rfl:=ya Y
   have kB:=(hD 13 (ye K 13 rfl)).2.2.2 _ rfl
   clear K hD xi xj
   rw [if_pos (by rfl)];unfold Oper.wp;go_simp
   exact ⟨upd f 15 (.bool fb),by simp [upd,kB],zf (U xw) (U HD) (by decide) ⟨fun h=>absurd h (by decide),fun h=>absurd h (by decide),fun h=>absurd h (by decide),yi rfl⟩⟩
  | 16,Y =>
   obtain rfl:=ya Y
   have jw:=kX (by omega) (by omega)
   clear K hD xi xj
   rw [if_pos (by rfl)];unfold Oper.wp;go_simp
   have xy:=gZ V (O (yw 0 0 0 0 0 ⟨#[]⟩).toArray 65)
   exact ⟨upd f 16 (I V.heap.size 0),by simp [upd],cC (U xw) (U HD) xy (by decide) (dtk_grow jw xy) ⟨fun h=>absurd h (by decide),fun h=>absurd h (by decide),fun _=>⟨V.heap.size,rfl,(U xw).size,fun _=>⟨zM V (yw 0 0 0 0 0 ⟨#[]⟩) _,by rw [zi]; omega⟩,fun h=>absurd h jw⟩,fun u hu=>by cases hu⟩⟩
  | 17,Y =>
   obtain rfl:=ya Y
   have jw:¬ xx[17]? = some true:=by rw [xu]; simp
   have kR:=(hD 14 (ye K 14 rfl)).2.2.2 _ rfl
   obtain ⟨pb,g16,hpb,xV,-⟩:=(hD 16 (ye K 16 rfl)).2.2.1 rfl
   obtain ⟨xV,aW⟩:=xV jw
   have aD:=M xV
   obtain ⟨u0,y0,q0⟩:=zE xV 0 (by omega)
   obtain ⟨u1,y1,q1⟩:=zE xV 1 (by omega)
   obtain ⟨u2,y2,q2⟩:=zE xV 2 (by omega)
   obtain ⟨u3,y3,q3⟩:=zE xV 3 (by omega)
   obtain ⟨u4,y4,q4⟩:=zE xV 4 (by omega)
   obtain ⟨u5,y5,q5⟩:=zE xV 5 (by omega)
   simp only [Nat.zero_add] at y0 q0 y1 q1 y2 q2 y3 q3 y4 q4 y5 q5
   clear xV
   clear K hD xi xj
   rw [if_pos (by rfl)];unfold Oper.wp;go_simp
   refine ⟨upd f 17 Z,by simp [upd,kR,g16],rgx_last (zj pb hpb (yw x.id x.side x.ticks x.left x.life x.tag) 0 V (U xw)) (U HD) xu (fun j hj hxj h=>dtk_last j h (fun hj16=>?_)) ⟨fun h=>absurd h (by decide),fun h=>absurd h (by decide),fun h=>absurd h (by decide),fun u hu=>by cases hu⟩⟩
   rw [hj16]
   refine ⟨pb,g16,hpb,fun h=>absurd trivial h,fun _=>⟨?_,?_⟩⟩
   ·exact yY V pb 0 (yw x.id x.side x.ticks x.left x.life x.tag) (fun j hj=>U aD j hj)
   ·show pb < (V.setCells pb 0 (yw x.id x.side x.ticks x.left x.life x.tag)).heap.size
    simp only [World.setCells,World.setCell,Array.size_modify]; exact aW
  | 18,Y =>
   obtain rfl:=ya Y
   have g15:=(hD 15 (ye K 15 rfl)).2.2.2 _ rfl
   clear K hD xi xj
   rw [if_pos (by rfl)];unfold Oper.wp;go_simp
   exact ⟨upd f 18 (.bool fb),by simp [upd,g15],zf (U xw) (U HD) (by decide) ⟨fun h=>absurd h (by decide),fun h=>absurd h (by decide),fun h=>absurd h (by decide),yi rfl⟩⟩
  | i + 19,Y=>simp at Y
theorem due_any {G B r:Nat} {vq:Value} {g:Gr} (w:World) (h:GS G B r w vq g) (hi:GI g):Calls Tryz.prog 21 #[I G 0] w fun e w'=>e = .returned (duV (dueG g))∧yn w w':=by
 have hsf:=sfl
 have hG:=h.lt
 obtain ⟨xR,HX⟩:=ie w [H 0,H 0,H 0,H 0,H 0] 39
 have HS:Hid ((w.alloc (O #[H 0,H 0,H 0,H 0,H 0] 39)).heap.size = w.heap.size + 1):=by show _ = _; simp
 have HG:=M (zx h xR)
 have HB:=M xR
 have HI:=M hi
 clear h xR hi
 go_enter Tryz.func21,Tryz.ntmps21
 refine ic fun xh HK=>?_
 go_wp2_with fail
 refine U HK _ _ ?_
 clear HK
 generalize (w.alloc (O #[H 0,H 0,H 0,H 0,H 0] 39)) = W1 at HX HS HG HB ⊢
 have c3:W1.cell? (J G 3) = some (H g.bg):=zb (U HG).box 3 rfl
 by_cases Q:g.bg = 1
 ·have HQ:Hid (duV (dueG g) = duV (takD g.l g.cm g.tk)):=by show _ = _; unfold dueG; rw [if_pos Q]
  have b1:(g.bg == 1) = true:=by simpa using Q
  clear Q
  go_wp2_with fail
  refine (takerDue_any W1 (U HG) (U HI).l0 (fun h0=>(U HI).good (.inr h0))).mono ?_
  rintro e w2 ⟨rfl,xP⟩
  have xW:=M (zl (U HX) xP (by have:=U HS; omega))
  have xt:=M (ia (U HB) xP)
  clear xP c3
  generalize hd:takD g.l g.cm g.tk = d at HQ ⊢
  clear hd
  obtain ⟨dk,di,dt,dq,dp⟩:=d
  unfold duV at HQ ⊢
  simp only at HQ ⊢
  have z0:=zb (U xW) 0 rfl
  have z1:=zb (U xW) 1 rfl
  have z2:=zb (U xW) 2 rfl
  have z3:=zb (U xW) 3 rfl
  have z4:=zb (U xW) 4 rfl
  have f0:=zd (U xW) 0 (by decide)
  have f1:=zd (U xW) 1 (by decide)
  have f2:=zd (U xW) 2 (by decide)
  have f3:=zd (U xW) 3 (by decide)
  have f4:=zd (U xW) 4 (by decide)
  go_wp2_with fail
  try simp (config:={ zetaDelta:=true }) only [Exit.noGoto_ret]
  change bodyPost _ _ _ _ _ (World.setCells w2 w.heap.size 0 [H dk,H di,H dt,H dq,H dp])
  have xq:Hid ((World.setCells w2 w.heap.size 0 [H dk,H di,H dt,H dq,H dp]).rangeAt w.heap.size 0 [H dk,H di,H dt,H dq,H dp]∧yn w (World.setCells w2 w.heap.size 0 [H dk,H di,H dt,H dq,H dp])):=⟨(zB (U xW) (by simp only [List.length_cons,List.length_nil])).r,zj w.heap.size (by omega) [H dk,H di,H dt,H dq,H dp] 0 w2 (U xt)⟩
  generalize World.setCells w2 w.heap.size 0 [H dk,H di,H dt,H dq,H dp] = WE at xq ⊢
  obtain ⟨d0,d1,d2,d3,d4⟩:=yC (U xq).1
  try simp only [Exit.inBlock,Exit.then]
  refine bodyPost_ret (by simp [results,Tryz.results21,go_sem,d0,d1,d2,d3,d4]; try rfl) rfl ?_
  exact ⟨congrArg Ending.returned (U HQ).symm,(U xq).2⟩
 ·have b1:(g.bg == 1) = false:=by simpa using Q
  by_cases h8:g.bg = 8
  ·have HQ:Hid (duV (dueG g) = duV (dayD g.l)):=by show _ = _; unfold dueG; rw [if_neg Q,if_pos h8]
   have b8:(g.bg == 8) = true:=by simpa using h8
   clear Q h8
   go_wp2_with fail
   refine (dayDue_any W1 (U HG) (yO (U HI).len (by decide))).mono ?_
   rintro e w2 ⟨rfl,xP⟩
   have xW:=M (zl (U HX) xP (by have:=U HS; omega))
   have xt:=M (ia (U HB) xP)
   clear xP c3
   generalize hd:dayD g.l = d at HQ ⊢
   clear hd
   obtain ⟨dk,di,dt,dq,dp⟩:=d
   unfold duV at HQ ⊢
   simp only at HQ ⊢
   have z0:=zb (U xW) 0 rfl
   have z1:=zb (U xW) 1 rfl
   have z2:=zb (U xW) 2 rfl
   have z3:=zb (U xW) 3 rfl
   have z4:=zb (U xW) 4 rfl
   have f0:=zd (U xW) 0 (by decide)
   have f1:=zd (U xW) 1 (by decide)
   have f2:=zd (U xW) 2 (by decide)
   have f3:=zd (U xW) 3 (by decide)
   have f4:=zd (U xW) 4 (by decide)
   go_wp2_with fail
   try simp (config:={ zetaDelta:=true }) only [Exit.noGoto_ret]
   change bodyPost _ _ _ _ _ (World.setCells w2 w.heap.size 0 [H dk,H di,H dt,H dq,H dp])
   have xq:Hid ((World.setCells w2 w.heap.size 0 [H dk,H di,H dt,H dq,H dp]).rangeAt w.heap.size 0 [H dk,H di,H dt,H dq,H dp]∧yn w (World.setCells w2 w.heap.size 0 [H dk,H di,H dt,H dq,H dp])):=⟨(zB (U xW) (by simp only [List.length_cons,List.length_nil])).r,zj w.heap.size (by omega) [H dk,H di,H dt,H dq,H dp] 0 w2 (U xt)⟩
   generalize World.setCells w2 w.heap.size 0 [H dk,H di,H dt,H dq,H dp] = WE at xq ⊢
   obtain ⟨d0,d1,d2,d3,d4⟩:=yC (U xq).1
   try simp only [Exit.inBlock,Exit.then]
   refine bodyPost_ret (by simp [results,Tryz.results21,go_sem,d0,d1,d2,d3,d4]; try rfl) rfl ?_
   exact ⟨congrArg Ending.returned (U HQ).symm,(U xq).2⟩
  ·have HQ:Hid (dueG g = zDu):=by show _ = _; unfold dueG; rw [if_neg Q,if_neg h8]
   have b8:(g.bg == 8) = false:=by simpa using h8
   clear Q h8
   have z0:=zb (U HX) 0 rfl
   have z1:=zb (U HX) 1 rfl
   have z2:=zb (U HX) 2 rfl
   have z3:=zb (U HX) 3 rfl
   have z4:=zb (U HX) 4 rfl
   have f0:=zd (U HX) 0 (by decide)
   have f1:=zd (U HX) 1 (by decide)
   have f2:=zd (U HX) 2 (by decide)
   have f3:=zd (U HX) 3 (by decide)
   have f4:=zd (U HX) 4 (by decide)
   go_wp2_with fail
   try simp (config:={ zetaDelta:=true }) only [Exit.noGoto_ret]
   change bodyPost _ _ _ _ _ (World.setCells W1 w.heap.size 0 [H 0,H 0,H 0,H 0,H 0])
   have xq:Hid ((World.setCells W1 w.heap.size 0 [H 0,H 0,H 0,H 0,H 0]).rangeAt w.heap.size 0 [H 0,H 0,H 0,H 0,H 0]∧yn w (World.setCells W1 w.heap.size 0 [H 0,H 0,H 0,H 0,H 0])):=⟨(zB (U HX) (by simp only [List.length_cons,List.length_nil])).r,zj w.heap.size (by omega) [H 0,H 0,H 0,H 0,H 0] 0 W1 (U HB)⟩
   generalize World.setCells W1 w.heap.size 0 [H 0,H 0,H 0,H 0,H 0] = WE at xq ⊢
   obtain ⟨d0,d1,d2,d3,d4⟩:=yC (U xq).1
   try simp only [Exit.inBlock,Exit.then]
   refine bodyPost_ret (by simp [results,Tryz.results21,go_sem,d0,d1,d2,d3,d4]; try rfl) rfl ?_
   exact ⟨by rw [U HQ]; rfl,(U xq).2⟩
end Go.Proofs.YthhkapcbocgcoaaGreatDoor
