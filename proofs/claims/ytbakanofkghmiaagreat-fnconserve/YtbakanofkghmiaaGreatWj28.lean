/-
  What rests, counted, by the model: proved by walking the function.
-/
import Derived.Test.YtbakanofkghmiaaGreatWj27
set_option linter.unusedVariables false
set_option maxHeartbeats 6400000
set_option maxRecDepth 100000
namespace Go.Proofs.YtbakanofkghmiaaGreat
open Go.RowKit
def livS (l:List Od):Int:=l.foldl (fun n o=>wrap64 (n + o.left)) 0
theorem liv_step (l:List Od) {k:Nat} {o:Od} (h:l[k]? = some o):livS (l.take (k + 1)) = wrap64 (livS (l.take k) + o.left):=by
 unfold livS
 rw [List.take_add_one,h,List.foldl_append]; rfl
theorem l04Live_any (next:Int) (v:Value) (l:List Od) (w:World) (hr:RdR Od.vs 6 w v l) :
  Calls Tryz.prog 121 #[.agg #[H next,v]] w fun r w'=>r = ym (.tuple #[H l.length,H (livS l)])∧yn w w':=by
 obtain ⟨a,A,rfl,xE,hc⟩:=hr
 have xq:∀ (k:Nat) (c:Od),l[k]? = some c→∃ b off,a = some (J b off)∧b < w.heap.size∧w.rangeAt b (off + k * 6) c.vs:=by
  intro k c hk
  obtain ⟨b,off,G,E,h3⟩:=hc (by intro h; rw [h] at hk; simp at hk)
  exact ⟨b,off,G,E,h3 k c hk⟩
 have HC:=Y xq
 clear xq hc
 have b1:=eD w (eF #[H next,.slice a l.length A] 28)
 have HX:Hid (_∧_∧_):=⟨zi w [H next,.slice a l.length A] 28,b1,zh w (eF #[H next,.slice a l.length A] 28)⟩
 clear b1
 go_enter Tryz.func121,Tryz.ntmps121
 refine eH fun hj xu=>?_
 go_wp2_with fail
 refine U xu _ _ ?_
 clear xu
 change Hid (World.rangeAt (w.alloc (eF #[H next,.slice a l.length A] 28)) w.heap.size 0 [H next,.slice a l.length A]∧yn w (w.alloc (eF #[H next,.slice a l.length A] 28))∧(w.alloc (eF #[H next,.slice a l.length A] 28)).heap.size = w.heap.size + 1) at HX
 generalize (w.alloc (eF #[H next,.slice a l.length A] 28)) = hR at HX ⊢
 have c1:hR.cell? (yq w 1) = some (.slice a l.length A):=(U HX).1 1 _ rfl
 go_wp2_with fail
 go_loopw [4,5] (fun nv iv wr=>wr = hR∧∃ (k:Nat),k ≤ l.length∧iv = H k∧∃ n:Int,nv = H n∧Hid (n = livS (l.take k))) (fun _ iv _=>l.length - (intOf iv).toNat)
 case atStart=>exact ⟨rfl,0,Nat.zero_le _,rfl,0,rfl,rfl⟩
 case round =>
  obtain ⟨rfl,k,hk,rfl,n,rfl,hn⟩:=hrel
  by_cases xJ:k < l.length
  ·obtain ⟨e,jk⟩:∃ e,l[k]? = some e:=⟨_,yH xJ⟩
   obtain ⟨b,off,rfl,F,xo⟩:=U HC k e jk
   have qb:=Y (liv_step l jk)
   have un:(k:Int) < l.length:=by omega
   obtain ⟨g0,g1,g2,g3,g4,g5⟩:=zz (zb xo (U HX).2.1 F)
   clear jk xo F
   go_wp2_with fail
   go_roundw
   case rel=>exact ⟨trivial,k + 1,by omega,by go_num,_,rfl,Y (by rw [U qb,U hn])⟩
   case measure=>simp [intOf]; omega
  ·have un:¬ (k:Int) < l.length:=by omega
   rw [yZ (by omega)] at hn
   have HB:=Y (U HX).2.1
   clear HX
   go_wp2_with fail
   try simp only [Exit.inBlock,Exit.then]
   refine bodyPost_ret (by simp [results,Tryz.results121,go_sem]; try rfl) rfl ?_
   exact ⟨by rw [U hn],U HB⟩
def cntM (t:Tot) (e:Ev):Tot :=
 if e.kind = 1 then { t with ac:=wrap64 (t.ac + 1) } else if e.kind = 2 then { t with rf:=wrap64 (t.rf + 1) }
 else if e.kind = 3 then { t with tr:=wrap64 (t.tr + 1),vo:=wrap64 (t.vo + e.qty),no:=wrap64 (t.no + wrap64 (e.qty * e.price)),le:=wrap64 (t.le - e.qty) }
 else if e.kind = 4 then { t with li:=wrap64 (t.li + 1),le:=wrap64 (t.le + e.qty) } else t
theorem l04Count_any (t:Tot) (e:Ev) (w:World) :
  Calls Tryz.prog 120 #[.agg #[H t.gr,H t.ac,H t.rf,H t.tr,H t.vo,H t.no,H t.li,H t.le],.agg (yu e.kind e.cmd.k e.cmd.s e.cmd.t e.cmd.l e.cmd.q e.cmd.i e.cmd.p e.cmd.g e.id e.other e.qty e.price e.reason).toArray] w fun r w'=>r = ym (.agg #[H (cntM t e).gr,H (cntM t e).ac,H (cntM t e).rf,H (cntM t e).tr,H (cntM t e).vo,H (cntM t e).no,H (cntM t e).li,H (cntM t e).le])∧yn w w':=by
 have HM:Hid (cntM t e = if e.kind = 1 then { t with ac:=wrap64 (t.ac + 1) } else if e.kind = 2 then { t with rf:=wrap64 (t.rf + 1) }
  else if e.kind = 3 then { t with tr:=wrap64 (t.tr + 1),vo:=wrap64 (t.vo + e.qty),no:=wrap64 (t.no + wrap64 (e.qty * e.price)),le:=wrap64 (t.le - e.qty) }
  else if e.kind = 4 then { t with li:=wrap64 (t.li + 1),le:=wrap64 (t.le + e.qty) } else t):=rfl
 generalize cntM t e = yl at HM ⊢
 obtain ⟨ud,uc,uf,ug,uh,ue,uu,ut⟩:=t
 simp only at HM ⊢
 have hsf:=sfl
 have xA:=zh w (eF #[H ud,H uc,H uf,H ug,H uh,H ue,H uu,H ut] 30)
 have ua:((w.alloc (eF #[H ud,H uc,H uf,H ug,H uh,H ue,H uu,H ut] 30)).alloc (eF (yu e.kind e.cmd.k e.cmd.s e.cmd.t e.cmd.l e.cmd.q e.cmd.i e.cmd.p e.cmd.g e.id e.other e.qty e.price e.reason).toArray 46)).heap.size = w.heap.size + 1 + 1:=by rw [zh,xA]
 have jt:(((w.alloc (eF #[H ud,H uc,H uf,H ug,H uh,H ue,H uu,H ut] 30)).alloc (eF (yu e.kind e.cmd.k e.cmd.s e.cmd.t e.cmd.l e.cmd.q e.cmd.i e.cmd.p e.cmd.g e.id e.other e.qty e.price e.reason).toArray 46)).alloc (eF #[H 0,H 0,H 0,H 0,H 0,H 0,H 0,H 0] 30)).heap.size = w.heap.size + 1 + 1 + 1:=by rw [zh,ua]
 have r1:=zi w [H ud,H uc,H uf,H ug,H uh,H ue,H uu,H ut] 30
 have t1:=zv w [H ud,H uc,H uf,H ug,H uh,H ue,H uu,H ut] 30
 have r2:=zi (w.alloc (eF #[H ud,H uc,H uf,H ug,H uh,H ue,H uu,H ut] 30)) (yu e.kind e.cmd.k e.cmd.s e.cmd.t e.cmd.l e.cmd.q e.cmd.i e.cmd.p e.cmd.g e.id e.other e.qty e.price e.reason) 46
 have t3:=zv ((w.alloc (eF #[H ud,H uc,H uf,H ug,H uh,H ue,H uu,H ut] 30)).alloc (eF (yu e.kind e.cmd.k e.cmd.s e.cmd.t e.cmd.l e.cmd.q e.cmd.i e.cmd.p e.cmd.g e.id e.other e.qty e.price e.reason).toArray 46)) [H 0,H 0,H 0,H 0,H 0,H 0,H 0,H 0] 30
 rw [ua] at t3
 rw [xA] at r2
 have b1:=eD w (eF #[H ud,H uc,H uf,H ug,H uh,H ue,H uu,H ut] 30)
 have b2:Below (w.heap.size + 1) (w.alloc (eF #[H ud,H uc,H uf,H ug,H uh,H ue,H uu,H ut] 30)) ((w.alloc (eF #[H ud,H uc,H uf,H ug,H uh,H ue,H uu,H ut] 30)).alloc (eF (yu e.kind e.cmd.k e.cmd.s e.cmd.t e.cmd.l e.cmd.q e.cmd.i e.cmd.p e.cmd.g e.id e.other e.qty e.price e.reason).toArray 46)):=(Below.refl _ _).alloc (by omega) _
 have b3:Below (w.heap.size + 1 + 1) ((w.alloc (eF #[H ud,H uc,H uf,H ug,H uh,H ue,H uu,H ut] 30)).alloc (eF (yu e.kind e.cmd.k e.cmd.s e.cmd.t e.cmd.l e.cmd.q e.cmd.i e.cmd.p e.cmd.g e.id e.other e.qty e.price e.reason).toArray 46)) (((w.alloc (eF #[H ud,H uc,H uf,H ug,H uh,H ue,H uu,H ut] 30)).alloc (eF (yu e.kind e.cmd.k e.cmd.s e.cmd.t e.cmd.l e.cmd.q e.cmd.i e.cmd.p e.cmd.g e.id e.other e.qty e.price e.reason).toArray 46)).alloc (eF #[H 0,H 0,H 0,H 0,H 0,H 0,H 0,H 0] 30)):=(Below.refl _ _).alloc (by omega) _
 have HX:Hid (_∧_∧_∧_∧_):=⟨zb (zb r1 b2 (by omega)) b3 (by omega),zg (zg t1 b2 (by omega)) b3 (by omega),t3,(b1.trans (b2.mono (by omega))).trans (b3.mono (by omega)),Nat.le_of_eq jt.symm⟩
 have vH:=Y (zb r2 b3 (by omega))
 clear xA ua jt r1 r2 t1 t3 b1 b2 b3
 go_enter Tryz.func120,Tryz.ntmps120
 refine eH fun hj xu=>?_
 go_wp2_with fail
 refine U xu _ _ ?_
 clear xu
 generalize (((w.alloc (eF #[H ud,H uc,H uf,H ug,H uh,H ue,H uu,H ut] 30)).alloc (eF (yu e.kind e.cmd.k e.cmd.s e.cmd.t e.cmd.l e.cmd.q e.cmd.i e.cmd.p e.cmd.g e.id e.other e.qty e.price e.reason).toArray 46)).alloc (eF #[H 0,H 0,H 0,H 0,H 0,H 0,H 0,H 0] 30)) = hR at HX vH ⊢
 have HX:Hid (hR.rangeAt w.heap.size 0 [H ud,H uc,H uf,H ug,H uh,H ue,H uu,H ut]∧hR.there w.heap.size 0 8∧hR.there (w.heap.size + 1 + 1) 0 8∧yn w hR∧w.heap.size + 1 + 1 + 1 ≤ hR.heap.size):=U HX
 obtain ⟨g0,g1,g2,g3,g4,g5,g6,g7,g8,g9,qR,vF,xZ,kR⟩:=bD (U vH)
 clear g1 g2 g3 g4 g5 g6 g7 g8 g9 qR kR vH
 simp only [Nat.zero_add] at vF xZ
 have d0:hR.cell? (yq w 0) = some (H ud):=(U HX).1 0 _ rfl
 have p0:hR.frozen? (yq w 0) = false:=by have:=((U HX).2.1 0 (by omega)).2; rwa [Nat.zero_add] at this
 have d1:hR.cell? (yq w 1) = some (H uc):=(U HX).1 1 _ rfl
 have p1:hR.frozen? (yq w 1) = false:=by have:=((U HX).2.1 1 (by omega)).2; rwa [Nat.zero_add] at this
 have d2:hR.cell? (yq w 2) = some (H uf):=(U HX).1 2 _ rfl
 have p2:hR.frozen? (yq w 2) = false:=by have:=((U HX).2.1 2 (by omega)).2; rwa [Nat.zero_add] at this
 have d3:hR.cell? (yq w 3) = some (H ug):=(U HX).1 3 _ rfl
 have p3:hR.frozen? (yq w 3) = false:=by have:=((U HX).2.1 3 (by omega)).2; rwa [Nat.zero_add] at this
 have d4:hR.cell? (yq w 4) = some (H uh):=(U HX).1 4 _ rfl
 have p4:hR.frozen? (yq w 4) = false:=by have:=((U HX).2.1 4 (by omega)).2; rwa [Nat.zero_add] at this
 have d5:hR.cell? (yq w 5) = some (H ue):=(U HX).1 5 _ rfl
 have p5:hR.frozen? (yq w 5) = false:=by have:=((U HX).2.1 5 (by omega)).2; rwa [Nat.zero_add] at this
 have d6:hR.cell? (yq w 6) = some (H uu):=(U HX).1 6 _ rfl
 have p6:hR.frozen? (yq w 6) = false:=by have:=((U HX).2.1 6 (by omega)).2; rwa [Nat.zero_add] at this
 have d7:hR.cell? (yq w 7) = some (H ut):=(U HX).1 7 _ rfl
 have p7:hR.frozen? (yq w 7) = false:=by have:=((U HX).2.1 7 (by omega)).2; rwa [Nat.zero_add] at this
 refine eH fun hj xu=>?_
 have HT:Hid (∀ (V:World) (T:Tot) (u5 u6 u7 u8 u9 u10 u11 u12 u13 u14 u15 u16 u17 u18 u19 u20 u21 u22 u23 u24 u25 u26 u27 u28 u29 u30 u31 u32 u33 u34 u35 u36 u37 u38 u39 u40 u41 u42 u43 u44 u45 u46 u47 u48 u49 u50 u51 u52 u53 u54 u55 u56 u57:Value),yl = T→(V.rangeAt w.heap.size 0 T.vs∧V.there w.heap.size 0 8∧V.there (w.heap.size + 1 + 1) 0 8∧yn w V∧w.heap.size + 1 + 1 + 1 ≤ V.heap.size)→hj { tmps:=#[.agg #[H ud,H uc,H uf,H ug,H uh,H ue,H uu,H ut],.agg (yu e.kind e.cmd.k e.cmd.s e.cmd.t e.cmd.l e.cmd.q e.cmd.i e.cmd.p e.cmd.g e.id e.other e.qty e.price e.reason).toArray,yp w 0,I (w.heap.size + 1) 0,I (w.heap.size + 1 + 1) 0,u5,u6,u7,u8,u9,u10,u11,u12,u13,u14,u15,u16,u17,u18,u19,u20,u21,u22,u23,u24,u25,u26,u27,u28,u29,u30,u31,u32,u33,u34,u35,u36,u37,u38,u39,u40,u41,u42,u43,u44,u45,u46,u47,u48,u49,u50,u51,u52,u53,u54,u55,u56,u57,M],defers:=[] } V):=by
  intro V T u5 u6 u7 u8 u9 u10 u11 u12 u13 u14 u15 u16 u17 u18 u19 u20 u21 u22 u23 u24 u25 u26 u27 u28 u29 u30 u31 u32 u33 u34 u35 u36 u37 u38 u39 u40 u41 u42 u43 u44 u45 u46 u47 u48 u49 u50 u51 u52 u53 u54 u55 u56 u57 hMT ub
  have HY:=Y ub
  have oi:=Y hMT
  clear ub hMT HM HX g0 vF xZ d0 p0 d1 p1 d2 p2 d3 p3 d4 p4 d5 p5 d6 p6 d7 p7
  obtain ⟨agr,aac,arf,atr,avo,ano,ali,ale⟩:=T
  have c0:V.cell? (yq w 0) = some (H agr):=(U HY).1 0 _ rfl
  obtain ⟨y0,z0,q0⟩:=ze (U HY).2.2.1 (j:=0) (by omega)
  have c1:V.cell? (yq w 1) = some (H aac):=(U HY).1 1 _ rfl
  obtain ⟨y1,z1,q1⟩:=ze (U HY).2.2.1 (j:=1) (by omega)
  have c2:V.cell? (yq w 2) = some (H arf):=(U HY).1 2 _ rfl
  obtain ⟨y2,z2,q2⟩:=ze (U HY).2.2.1 (j:=2) (by omega)
  have c3:V.cell? (yq w 3) = some (H atr):=(U HY).1 3 _ rfl
  obtain ⟨y3,z3,q3⟩:=ze (U HY).2.2.1 (j:=3) (by omega)
  have c4:V.cell? (yq w 4) = some (H avo):=(U HY).1 4 _ rfl
  obtain ⟨y4,z4,q4⟩:=ze (U HY).2.2.1 (j:=4) (by omega)
  have c5:V.cell? (yq w 5) = some (H ano):=(U HY).1 5 _ rfl
  obtain ⟨y5,z5,q5⟩:=ze (U HY).2.2.1 (j:=5) (by omega)
  have c6:V.cell? (yq w 6) = some (H ali):=(U HY).1 6 _ rfl
  obtain ⟨y6,z6,q6⟩:=ze (U HY).2.2.1 (j:=6) (by omega)
  have c7:V.cell? (yq w 7) = some (H ale):=(U HY).1 7 _ rfl
  obtain ⟨y7,z7,q7⟩:=ze (U HY).2.2.1 (j:=7) (by omega)
  have xQ:=Y (yX V (w.heap.size + 1 + 1) 0 [H agr,H aac,H arf,H atr,H avo,H ano,H ali,H ale] (fun j K=>(U HY).2.2.1 j K))
  have qf:=Y (zo (w.heap.size + 1 + 1) (by omega) [H agr,H aac,H arf,H atr,H avo,H ano,H ali,H ale] 0 V (U HY).2.2.2.1)
  refine U xu _ _ ?_
  clear xu
  go_wp2_with fail
  change bodyPost _ _ _ _ _ (V.setCells (w.heap.size + 1 + 1) 0 [H agr,H aac,H arf,H atr,H avo,H ano,H ali,H ale])
  generalize V.setCells (w.heap.size + 1 + 1) 0 [H agr,H aac,H arf,H atr,H avo,H ano,H ali,H ale] = WE at xQ qf ⊢
  obtain ⟨d0,d1,d2,d3,d4,d5,d6,d7⟩:=yD (U xQ)
  refine bodyPost_ret (by simp [results,Tryz.results120,go_sem,d0,d1,d2,d3,d4,d5,d6,d7]; try rfl) rfl ?_
  exact ⟨by rw [U oi],U qf⟩
 clear xu
 by_cases G:e.kind = 1
 ·have b1:(e.kind == 1) = true:=by simpa using G
  have HE:=Y ((U HM).trans (if_pos G))
  clear HM G
  go_wp2_with fail
  exact U HT _ (Tot.mk ud (wrap64 (uc + 1)) uf ug uh ue uu ut) _ _ _ _ _ _ _ _ _ _ _ _ _ _ _ _ _ _ _ _ _ _ _ _ _ _ _ _ _ _ _ _ _ _ _ _ _ _ _ _ _ _ _ _ _ _ _ _ _ _ _ _ _ (U HE) (keepB (U HX) 1 (by simp) _)
 have b1:(e.kind == 1) = false:=by rw [xd]; exact G
 by_cases E:e.kind = 2
 ·have b2:(e.kind == 2) = true:=by simpa using E
  have HE:=Y ((U HM).trans ((if_neg G).trans (if_pos E)))
  clear HM G E
  go_wp2_with fail
  exact U HT _ (Tot.mk ud uc (wrap64 (uf + 1)) ug uh ue uu ut) _ _ _ _ _ _ _ _ _ _ _ _ _ _ _ _ _ _ _ _ _ _ _ _ _ _ _ _ _ _ _ _ _ _ _ _ _ _ _ _ _ _ _ _ _ _ _ _ _ _ _ _ _ (U HE) (keepB (U HX) 2 (by simp) _)
 have b2:(e.kind == 2) = false:=by rw [xd]; exact E
 by_cases h3:e.kind = 3
 ·have b3:(e.kind == 3) = true:=by simpa using h3
  have HE:=Y ((U HM).trans ((if_neg G).trans ((if_neg E).trans (if_pos h3))))
  clear HM G E h3
  go_wp2_with fail
  exact U HT _ (Tot.mk ud uc uf (wrap64 (ug + 1)) (wrap64 (uh + e.qty)) (wrap64 (ue + wrap64 (e.qty * e.price))) uu (wrap64 (ut - e.qty))) _ _ _ _ _ _ _ _ _ _ _ _ _ _ _ _ _ _ _ _ _ _ _ _ _ _ _ _ _ _ _ _ _ _ _ _ _ _ _ _ _ _ _ _ _ _ _ _ _ _ _ _ _ (U HE) (keepB (keepB (keepB (keepB (U HX) 3 (by simp) _) 4 (by simp) _) 5 (by simp) _) 7 (by simp) _)
 have b3:(e.kind == 3) = false:=by rw [xd]; exact h3
 by_cases h4:e.kind = 4
 ·have b4:(e.kind == 4) = true:=by simpa using h4
  have HE:=Y ((U HM).trans ((if_neg G).trans ((if_neg E).trans ((if_neg h3).trans (if_pos h4)))))
  clear HM G E h3 h4
  go_wp2_with fail
  exact U HT _ (Tot.mk ud uc uf ug uh ue (wrap64 (uu + 1)) (wrap64 (ut + e.qty))) _ _ _ _ _ _ _ _ _ _ _ _ _ _ _ _ _ _ _ _ _ _ _ _ _ _ _ _ _ _ _ _ _ _ _ _ _ _ _ _ _ _ _ _ _ _ _ _ _ _ _ _ _ (U HE) (keepB (keepB (U HX) 6 (by simp) _) 7 (by simp) _)
 have b4:(e.kind == 4) = false:=by rw [xd]; exact h4
 have HE:=Y ((U HM).trans ((if_neg G).trans ((if_neg E).trans ((if_neg h3).trans (if_neg h4)))))
 clear HM G E h3 h4
 go_wp2_with fail
 exact U HT _ (Tot.mk ud uc uf ug uh ue uu ut) _ _ _ _ _ _ _ _ _ _ _ _ _ _ _ _ _ _ _ _ _ _ _ _ _ _ _ _ _ _ _ _ _ _ _ _ _ _ _ _ _ _ _ _ _ _ _ _ _ _ _ _ _ (U HE) (U HX)
theorem box3 (w:World) (bl cl rl:List Value) (T1 T2 T3:TypeId):(((w.alloc (Obj.cells bl.toArray T1)).alloc (Obj.cells cl.toArray T2)).alloc (Obj.cells rl.toArray T3)).heap.size = w.heap.size + 3∧World.rangeAt (((w.alloc (Obj.cells bl.toArray T1)).alloc (Obj.cells cl.toArray T2)).alloc (Obj.cells rl.toArray T3)) w.heap.size 0 bl∧World.rangeAt (((w.alloc (Obj.cells bl.toArray T1)).alloc (Obj.cells cl.toArray T2)).alloc (Obj.cells rl.toArray T3)) (w.heap.size + 1) 0 cl∧World.rangeAt (((w.alloc (Obj.cells bl.toArray T1)).alloc (Obj.cells cl.toArray T2)).alloc (Obj.cells rl.toArray T3)) (w.heap.size + 1 + 1) 0 rl∧World.there (((w.alloc (Obj.cells bl.toArray T1)).alloc (Obj.cells cl.toArray T2)).alloc (Obj.cells rl.toArray T3)) (w.heap.size + 1 + 1) 0 rl.length∧yn w (((w.alloc (Obj.cells bl.toArray T1)).alloc (Obj.cells cl.toArray T2)).alloc (Obj.cells rl.toArray T3)):=by
 have xA:=zh w (Obj.cells bl.toArray T1)
 have ua:((w.alloc (Obj.cells bl.toArray T1)).alloc (Obj.cells cl.toArray T2)).heap.size = w.heap.size + 1 + 1:=by rw [zh,xA]
 have r1:=zi w bl T1
 have r2:=zi (w.alloc (Obj.cells bl.toArray T1)) cl T2
 have r3:=zi ((w.alloc (Obj.cells bl.toArray T1)).alloc (Obj.cells cl.toArray T2)) rl T3
 have t3:=zv ((w.alloc (Obj.cells bl.toArray T1)).alloc (Obj.cells cl.toArray T2)) rl T3
 have b1:=eD w (Obj.cells bl.toArray T1)
 have b2:Below (w.alloc (Obj.cells bl.toArray T1)).heap.size (w.alloc (Obj.cells bl.toArray T1)) ((w.alloc (Obj.cells bl.toArray T1)).alloc (Obj.cells cl.toArray T2)):=eD _ _
 have b3:Below ((w.alloc (Obj.cells bl.toArray T1)).alloc (Obj.cells cl.toArray T2)).heap.size ((w.alloc (Obj.cells bl.toArray T1)).alloc (Obj.cells cl.toArray T2)) (((w.alloc (Obj.cells bl.toArray T1)).alloc (Obj.cells cl.toArray T2)).alloc (Obj.cells rl.toArray T3)):=eD _ _
 rw [xA] at r2
 rw [ua] at r3 t3
 refine ⟨by rw [zh,ua],zb (zb r1 b2 (by omega)) b3 (by omega),zb r2 b3 (by omega),r3,t3,b1.trans ((D b2 b3).mono b1.size)⟩
theorem there_blk {W W':World} {b o n:Nat} (h:W.there b o n) (F:W'.heap[b]? = W.heap[b]?):W'.there b o n:=fun j K=>by
 rw [yQ (a:=(J b (o + j))) F,World.frozen?_of_block (a:=(J b (o + j))) F]; exact h j K
def RdG (W:World) (v:Value) (gl:List (List Ev)):Prop :=
 ∃ (a:Option Addr) (A:Nat),v = .slice a gl.length A∧gl.length ≤ 1073741824 ∧
  (gl ≠ []→∃ b off,a = some (J b off)∧b < W.heap.size∧∀ i es,gl[i]? = some es→∃ g,W.cell? (J b (off + i)) = some g∧RdR Ev.vs 14 W g es)
theorem dS {C:Nat} {W W':World} {v:Value} {gl:List (List Ev)} (h:RdG W v gl) (F:Below C W W') (hC:W.heap.size ≤ C):RdG W' v gl:=by
 obtain ⟨a,A,e,hl,hc⟩:=h
 refine ⟨a,A,e,hl,fun xB=>?_⟩
 obtain ⟨b,off,G,E,h3⟩:=hc xB
 refine ⟨b,off,G,yJ E F.size,fun i es hi=>?_⟩
 obtain ⟨g,h4,h5⟩:=h3 i es hi
 exact ⟨g,(F.cell (p:=(J b (off + i))) (yJ E hC)).trans h4,zn h5 F hC⟩
def totG (t:Tot) (gl:List (List Ev)):Tot:=gl.foldl (fun t es=>es.foldl cntM t) t
def totM (gl:List (List Ev)) (l:List Od):Tot:={ totG { tot0 with gr:=gl.length } gl with li:=l.length,le:=livS l }
theorem totG_step (t:Tot) (gl:List (List Ev)) {k:Nat} {es:List Ev} (h:gl[k]? = some es):totG t (gl.take (k + 1)) = es.foldl cntM (totG t (gl.take k)):=by
 unfold totG
 rw [List.take_add_one,h,List.foldl_append]; rfl
theorem cntM_step (t:Tot) (es:List Ev) {k:Nat} {e:Ev} (h:es[k]? = some e):(es.take (k + 1)).foldl cntM t = cntM ((es.take k).foldl cntM t) e:=by
 rw [List.take_add_one,h,List.foldl_append]; rfl
structure JT (w:World) (bk:List Value) (W:World) (T:Tot):Prop where
 r:W.rangeAt (w.heap.size + 1 + 1) 0 T.vs
 t:W.there (w.heap.size + 1 + 1) 0 8
 o:W.there (w.heap.size + 1) 0 8
 k:W.rangeAt w.heap.size 0 bk
 b:Below w.heap.size w W
 z:w.heap.size + 1 + 1 + 1 ≤ W.heap.size
theorem jt_step {w W V:World} {bk:List Value} {T T':Tot} (h:JT w bk W T) (F:yn W V):JT w bk (V.setCells (w.heap.size + 1 + 1) 0 T'.vs) T':=by
 have hz:=h.z
 have hk:∀ b,b < w.heap.size + 1 + 1→(V.setCells (w.heap.size + 1 + 1) 0 T'.vs).heap[b]? = W.heap[b]?:=fun b jK=>(dp _ b (by omega) _ 0 V).trans (F.block b (by omega))
 have ju:=zg h.t F (by omega)
 refine ⟨yX V _ 0 _ (fun j K=>ju j (by simpa [Tot.vs] using K)),fun j K=>⟨?_,?_⟩,there_blk h.o (hk _ (by omega)),fun j u K=>?_,zo (w.heap.size + 1 + 1) (by omega) _ 0 V (h.b.trans (F.mono h.b.size)),by rw [cx]; exact yN hz F.size⟩
 ·have:=yX V (w.heap.size + 1 + 1) 0 T'.vs (fun j K=>ju j (by simpa [Tot.vs] using K)) j (T'.vs[j]'(by simpa [Tot.vs] using K)) (yH _)
  rw [this]; rfl
 ·rw [ef]; exact (ju j K).2
 ·rw [yQ (a:=(yq w (0 + j))) (hk w.heap.size (by omega))]; exact h.k j u K
theorem jt_below {w W V:World} {bk:List Value} {T:Tot} (h:JT w bk W T) (F:yn W V):JT w bk V T:=by
 have hz:=h.z
 exact ⟨zb h.r F (by omega),zg h.t F (by omega),zg h.o F (by omega),zb h.k F (by omega),h.b.trans (F.mono h.b.size),yN hz F.size⟩
theorem jt_set {w W:World} {bk:List Value} {T:Tot} (h:JT w bk W T) (x y:Int):JT w bk ((W.setCell (J (w.heap.size + 1 + 1) 6) (H x)).setCell (J (w.heap.size + 1 + 1) 7) (H y)) { T with li:=x,le:=y }:=by
 have r1:=cH (j:=6) (u:=H x) h.r (by simp [Tot.vs])
 have r2:=cH (j:=7) (u:=H y) r1 (by simp [Tot.vs])
 refine ⟨r2,zE (zE h.t),zE (zE h.o),fun j u K=>?_,(h.b.setCell (p:=(J (w.heap.size + 1 + 1) 6)) (show w.heap.size ≤ w.heap.size + 1 + 1 by omega) _).setCell (p:=(J (w.heap.size + 1 + 1) 7)) (show w.heap.size ≤ w.heap.size + 1 + 1 by omega) _,by simp only [World.setCell,Array.size_modify]; exact h.z⟩
 have xB:∀ q:Nat,((J (w.heap.size + 1 + 1) q):Addr) ≠ (yq w (0 + j)):=fun q e=>by have:=congrArg Addr.block e; simp at this; omega
 exact (yL _ _ _ _ (xB 7)).trans ((yL _ _ _ _ (xB 6)).trans (h.k j u K))
def CV (vs:List Value) (W:World) (j:Nat) (v:Value):Prop:=vs[j]? = some v
theorem l04Totals_any (v:Value) (gl:List (List Ev)) (next:Int) (vq:Value) (l:List Od) (w:World) (hg:RdG w v gl) (hr:RdR Od.vs 6 w vq l) :
  Calls Tryz.prog 71 #[v,.agg #[H next,vq]] w fun r w'=>r = ym (.agg #[H (totM gl l).gr,H (totM gl l).ac,H (totM gl l).rf,H (totM gl l).tr,H (totM gl l).vo,H (totM gl l).no,H (totM gl l).li,H (totM gl l).le])∧yn w w':=by
 have HR:=Y hr
 obtain ⟨aq,cq,rfl,hlq,hcq⟩:=hr
 clear hcq hlq
 obtain ⟨a,A,rfl,xE,hc⟩:=hg
 have xq:∀ (k:Nat) (es:List Ev),gl[k]? = some es→∃ b off,a = some (J b off)∧b < w.heap.size∧∃ ae ce,es.length ≤ 1073741824∧w.cell? (J b (off + k)) = some (.slice ae es.length ce)∧∀ (j:Nat) (e:Ev),es[j]? = some e→∃ b' uz,ae = some (J b' uz)∧b' < w.heap.size∧w.rangeAt b' (uz + j * 14) e.vs:=by
  intro k es hk
  obtain ⟨b,off,G,E,h3⟩:=hc (by intro h; rw [h] at hk; simp at hk)
  obtain ⟨g,h4,ae,ce,rfl,hel,h5⟩:=h3 k es hk
  refine ⟨b,off,G,E,ae,ce,hel,h4,fun j e K=>?_⟩
  obtain ⟨b',uz,k1,k2,k3⟩:=h5 (by intro h; rw [h] at K; simp at K)
  exact ⟨b',uz,k1,k2,k3 j e K⟩
 have HC:=Y xq
 clear xq hc
 have hsf:=sfl
 have HTM:Hid (totM gl l = { totG { tot0 with gr:=gl.length } gl with li:=l.length,le:=livS l }):=rfl
 generalize totM gl l = TM at HTM ⊢
 have xA:=zh w (eF #[H next,.slice aq l.length cq] 28)
 have ua:((w.alloc (eF #[H next,.slice aq l.length cq] 28)).alloc (eF #[H 0,H 0,H 0,H 0,H 0,H 0,H 0,H 0] 30)).heap.size = w.heap.size + 1 + 1:=by rw [zh,xA]
 have r1:=zi w [H next,.slice aq l.length cq] 28
 have t2:=zv (w.alloc (eF #[H next,.slice aq l.length cq] 28)) [H 0,H 0,H 0,H 0,H 0,H 0,H 0,H 0] 30
 rw [xA] at t2
 have b1:=eD w (eF #[H next,.slice aq l.length cq] 28)
 have b2:Below (w.heap.size + 1) (w.alloc (eF #[H next,.slice aq l.length cq] 28)) ((w.alloc (eF #[H next,.slice aq l.length cq] 28)).alloc (eF #[H 0,H 0,H 0,H 0,H 0,H 0,H 0,H 0] 30)):=(Below.refl _ _).alloc (by omega) _
 have HX:Hid (_∧_∧_∧_):=⟨zb r1 b2 (by omega),t2,b1.trans (b2.mono (by omega)),ua⟩
 clear xA ua r1 t2 b1 b2
 go_enter Tryz.func71,Tryz.ntmps71
 refine eH fun hj xu=>?_
 go_wp2_with fail
 refine U xu _ _ ?_
 clear xu
 generalize ((w.alloc (eF #[H next,.slice aq l.length cq] 28)).alloc (eF #[H 0,H 0,H 0,H 0,H 0,H 0,H 0,H 0] 30)) = hR at HX ⊢
 have HX:Hid (hR.rangeAt w.heap.size 0 [H next,.slice aq l.length cq]∧hR.there (w.heap.size + 1) 0 8∧yn w hR∧hR.heap.size = w.heap.size + 1 + 1):=U HX
 have hXs:=(U HX).2.2.2
 have HJ:Hid (JT w [H next,.slice aq l.length cq] (hR.alloc (eF #[H gl.length,H 0,H 0,H 0,H 0,H 0,H 0,H 0] 30)) (totG { tot0 with gr:=gl.length } (gl.take 0))):=by
  have b3:=eD hR (eF #[H gl.length,H 0,H 0,H 0,H 0,H 0,H 0,H 0] 30)
  have r3:=zi hR [H gl.length,H 0,H 0,H 0,H 0,H 0,H 0,H 0] 30
  have t3:=zv hR [H gl.length,H 0,H 0,H 0,H 0,H 0,H 0,H 0] 30
  rw [hXs] at r3 t3
  exact ⟨r3,t3,zg (U HX).2.1 b3 (by omega),zb (U HX).1 b3 (by omega),(U HX).2.2.1.trans (b3.mono (by omega)),by rw [zh]; omega⟩
 refine eH fun hj xu=>?_
 go_wp2_with fail
 refine U xu _ _ ?_
 clear xu
 generalize (hR.alloc (eF #[H gl.length,H 0,H 0,H 0,H 0,H 0,H 0,H 0] 30)) = yb at HJ ⊢
 clear hXs HX
 refine eH fun hj xu=>?_
 go_wp2_with fail
 go_loopw [6] (fun iv wr=>∃ (k:Nat),k ≤ gl.length∧iv = H k∧Hid (JT w [H next,.slice aq l.length cq] wr (totG { tot0 with gr:=gl.length } (gl.take k)))) (fun iv _=>gl.length - (intOf iv).toNat)
 case atStart=>exact ⟨0,Nat.zero_le _,rfl,U HJ⟩
 case round =>
  obtain ⟨k,hk,rfl,ub⟩:=hrel
  by_cases xJ:k < gl.length
  ·obtain ⟨es,jk⟩:∃ es,gl[k]? = some es:=⟨_,yH xJ⟩
   obtain ⟨b,off,rfl,F,ae,ce,hel,hcg,hev⟩:=U HC k es jk
   have qb:=Y (totG_step { tot0 with gr:=gl.length } gl jk)
   have un:(k:Int) < gl.length:=by omega
   have HCG:=Y hcg
   have vH:=Y hev
   generalize totG { tot0 with gr:=gl.length } (gl.take k) = T0 at qb ub
   have HJ1:Hid (JT w [H next,.slice aq l.length cq] wr ((es.take 0).foldl cntM T0)):=U ub
   clear jk hcg hev ub
   go_wp2_with fail
   go_loopw [7] (fun jv wq=>∃ (j:Nat),j ≤ es.length∧jv = H j∧Hid (JT w [H next,.slice aq l.length cq] wq ((es.take j).foldl cntM T0))) (fun jv _=>es.length - (intOf jv).toNat)
   case atStart=>exact ⟨0,Nat.zero_le _,rfl,U HJ1⟩
   case round =>
    obtain ⟨j,K,rfl,ub⟩:=hrel
    have jN:=Y (U ub)
    clear ub
    have gc:wr.cell? (J b (off + k)) = some (.slice ae es.length ce):=((U jN).b.cell (p:=(J b (off + k))) F).trans (U HCG)
    by_cases hjl:j < es.length
    ·obtain ⟨e,hje⟩:∃ e,es[j]? = some e:=⟨_,yH hjl⟩
     obtain ⟨b',uz,rfl,jK,hre⟩:=U vH j e hje
     have HNE:=Y (cntM_step T0 es hje)
     have hjl':(j:Int) < es.length:=by omega
     have vJ:=Y (zb hre (U jN).b jK)
     have hbw:b' < wr.heap.size:=yJ jK (U jN).b.size
     have hbg:b < wr.heap.size:=yJ F (U jN).b.size
     have ja:=(U jN).z
     generalize (es.take j).foldl cntM T0 = T at HNE jN
     clear hje hre
     go_wp2_with fail
     refine zj (RYA (fun f=>{ tmps:=#[.slice (some (J b off)) gl.length A,.agg #[H next,.slice aq l.length cq],M,yp w 0,I (w.heap.size + 1) 0,I (w.heap.size + 1 + 1) 0,H k,H j,.slice (some (J b off)) gl.length A,H gl.length,.agg #[H gl.length,H 0,H 0,H 0,H 0,H 0,H 0,H 0],H k,.slice (some (J b off)) gl.length A,H gl.length,.bool true,u15,u16,H j,.slice (some (J b off)) gl.length A,H k,I b (off + k),.slice (some (J b' uz)) es.length ce,H es.length,.bool true,u24,u25,f 0,f 1,f 2,f 3,f 4,f 5,f 6,f 7,f 8,M,M,M,M,M,M,M,M],defers:=[] }) (CV [.agg #[H T.gr,H T.ac,H T.rf,H T.tr,H T.vo,H T.no,H T.li,H T.le],.slice (some (J b off)) gl.length A,H k,I b (off + k),.slice (some (J b' uz)) es.length ce,H j,I b' (uz + j * 14),.agg (yu e.kind e.cmd.k e.cmd.s e.cmd.t e.cmd.l e.cmd.q e.cmd.i e.cmd.p e.cmd.g e.id e.other e.qty e.price e.reason).toArray,.agg #[H (cntM T e).gr,H (cntM T e).ac,H (cntM T e).rf,H (cntM T e).tr,H (cntM T e).vo,H (cntM T e).no,H (cntM T e).li,H (cntM T e).le]]) 9 (fun _ W=>∃ V,yn wr V∧W = V.setCells (w.heap.size + 1 + 1) 0 (cntM T e).vs) wr) (by kernel_rfl) ?_ ?_ ?_
     ·exact ⟨fun j=>([u26,u27,u28,u29,u30,u31,u32,u33,u34]:List Value)[j]?.getD M,rfl,ry_start (by decide)⟩
     ·rintro x xm V ⟨f,rfl,X⟩ hx xP
      have xp:=zV xP hx (acyc _ (by kernel_rfl))
      obtain ⟨V2,xY,eV⟩:=X.m (xp 9 (by simp))
      dsimp only
      generalize f 0 = v0,f 1 = v1,f 2 = v2,f 3 = v3,f 4 = v4,f 5 = v5,f 6 = v6,f 7 = v7,f 8 = v8
      have HJ3:Hid (JT w [H next,.slice aq l.length cq] V (cntM T e)):=by rw [eV]; exact jt_step (U jN) xY
      clear eV xY X xp xP hx vJ gc
      go_wp2_with fail
      dsimp only [H,I,J,M,yj,yk,yu,yv,yw,yp,yq,eF]
      go_roundw
      case rel=>exact ⟨j + 1,by omega,by go_num,by rw [U HNE]; exact U HJ3⟩
      case measure=>simp [intOf]; omega
     ·rintro x xm V i op ⟨f,rfl,X⟩ xo hx Z xy Q
      have xz:=Y X
      match i,Z with
      | 0,Z =>
       obtain rfl:=ya Z
       have hn:x[9]? = some false:=zy xo 12 0 9 (by kernel_rfl) hx (by simp) xy
       have xT:=X.b hn
       have y0:=zb (U jN).r xT (by omega) 0 _ rfl
       have y1:=zb (U jN).r xT (by omega) 1 _ rfl
       have y2:=zb (U jN).r xT (by omega) 2 _ rfl
       have y3:=zb (U jN).r xT (by omega) 3 _ rfl
       have y4:=zb (U jN).r xT (by omega) 4 _ rfl
       have y5:=zb (U jN).r xT (by omega) 5 _ rfl
       have y6:=zb (U jN).r xT (by omega) 6 _ rfl
       have y7:=zb (U jN).r xT (by omega) 7 _ rfl
       clear Q X xo
       rw [if_pos (by rfl)];unfold Oper.wp;go_simp
       exact ⟨upd f 0 (.agg #[H T.gr,H T.ac,H T.rf,H T.tr,H T.vo,H T.no,H T.li,H T.le]),by simp [upd],zX (U xz) 0 _ hn (by decide) rfl⟩
      | 1,Z =>
       obtain rfl:=ya Z
       have hn:x[9]? = some false:=zy xo 12 1 9 (by kernel_rfl) hx (by simp) xy
       clear Q X xo
       rw [if_pos (by rfl)];unfold Oper.wp;go_simp
       exact ⟨upd f 1 (.slice (some (J b off)) gl.length A),by simp [upd],zX (U xz) 1 _ hn (by decide) rfl⟩
      | 2,Z =>
       obtain rfl:=ya Z
       have hn:x[9]? = some false:=zy xo 12 2 9 (by kernel_rfl) hx (by simp) xy
       clear Q X xo
       rw [if_pos (by rfl)];unfold Oper.wp;go_simp
       exact ⟨upd f 2 (H k),by simp [upd],zX (U xz) 2 _ hn (by decide) rfl⟩
      | 3,Z =>
       obtain rfl:=ya Z
       have hn:x[9]? = some false:=zy xo 12 3 9 (by kernel_rfl) hx (by simp) xy
       have g1:f 1 = .slice (some (J b off)) gl.length A:=(Option.some.inj (X.c hn 1 (ye Q 1 rfl))).symm
       have g2:f 2 = H k:=(Option.some.inj (X.c hn 2 (ye Q 2 rfl))).symm
       clear Q X xo
       rw [if_pos (by rfl)];unfold Oper.wp;go_simp
       exact ⟨upd f 3 (I b (off + k)),by simp [upd,g1,g2],zX (U xz) 3 _ hn (by decide) rfl⟩
      | 4,Z =>
       obtain rfl:=ya Z
       have hn:x[9]? = some false:=zy xo 12 4 9 (by kernel_rfl) hx (by simp) xy
       have g3:f 3 = I b (off + k):=(Option.some.inj (X.c hn 3 (ye Q 3 rfl))).symm
       have xT:=X.b hn
       have y0:=(xT.cell (p:=(J b (off + k))) hbg).trans gc
       clear Q X xo
       rw [if_pos (by rfl)];unfold Oper.wp;go_simp
       exact ⟨upd f 4 (.slice (some (J b' uz)) es.length ce),by simp [upd,g3],zX (U xz) 4 _ hn (by decide) rfl⟩
      | 5,Z =>
       obtain rfl:=ya Z
       have hn:x[9]? = some false:=zy xo 12 5 9 (by kernel_rfl) hx (by simp) xy
       clear Q X xo
       rw [if_pos (by rfl)];unfold Oper.wp;go_simp
       exact ⟨upd f 5 (H j),by simp [upd],zX (U xz) 5 _ hn (by decide) rfl⟩
      | 6,Z =>
       obtain rfl:=ya Z
       have hn:x[9]? = some false:=zy xo 12 6 9 (by kernel_rfl) hx (by simp) xy
       have g4:f 4 = .slice (some (J b' uz)) es.length ce:=(Option.some.inj (X.c hn 4 (ye Q 4 rfl))).symm
       have g5:f 5 = H j:=(Option.some.inj (X.c hn 5 (ye Q 5 rfl))).symm
       clear Q X xo
       rw [if_pos (by rfl)];unfold Oper.wp;go_simp
       exact ⟨upd f 6 (I b' (uz + j * 14)),by simp [upd,g4,g5],zX (U xz) 6 _ hn (by decide) rfl⟩
      | 7,Z =>
       obtain rfl:=ya Z
       have hn:x[9]? = some false:=zy xo 12 7 9 (by kernel_rfl) hx (by simp) xy
       have g6:f 6 = I b' (uz + j * 14):=(Option.some.inj (X.c hn 6 (ye Q 6 rfl))).symm
       have xT:=X.b hn
       obtain ⟨e0,e1,e2,e3,e4,e5,e6,e7,e8,e9,oE,e11,e12,e13⟩:=bD (zb (U vJ) xT hbw)
       clear Q X xo
       rw [if_pos (by rfl)];unfold Oper.wp;go_simp
       exact ⟨upd f 7 (.agg (yu e.kind e.cmd.k e.cmd.s e.cmd.t e.cmd.l e.cmd.q e.cmd.i e.cmd.p e.cmd.g e.id e.other e.qty e.price e.reason).toArray),by simp [upd,g6],zX (U xz) 7 _ hn (by decide) rfl⟩
      | 8,Z =>
       obtain rfl:=ya Z
       have hn:x[9]? = some false:=zy xo 12 8 9 (by kernel_rfl) hx (by simp) xy
       have g0:f 0 = .agg #[H T.gr,H T.ac,H T.rf,H T.tr,H T.vo,H T.no,H T.li,H T.le]:=(Option.some.inj (X.c hn 0 (ye Q 0 rfl))).symm
       have g7:f 7 = .agg (yu e.kind e.cmd.k e.cmd.s e.cmd.t e.cmd.l e.cmd.q e.cmd.i e.cmd.p e.cmd.g e.id e.other e.qty e.price e.reason).toArray:=(Option.some.inj (X.c hn 7 (ye Q 7 rfl))).symm
       have xT:=X.b hn
       clear Q X xo
       rw [if_pos (by rfl)];unfold Oper.wp;go_simp
       refine (l04Count_any T e V).mono ?_
       rintro r w4 ⟨rfl,xC⟩
       exact ⟨upd f 8 (.agg #[H (cntM T e).gr,H (cntM T e).ac,H (cntM T e).rf,H (cntM T e).tr,H (cntM T e).vo,H (cntM T e).no,H (cntM T e).li,H (cntM T e).le]),by simp [upd,g0,g7],zX (ry_grow (fun _ _ _ _ _ h=>h) (U xz) hn xC) 8 _ hn (by decide) rfl⟩
      | 9,Z =>
       obtain rfl:=ya Z
       have hn:x[9]? = some false:=xy
       have g8:f 8 = .agg #[H (cntM T e).gr,H (cntM T e).ac,H (cntM T e).rf,H (cntM T e).tr,H (cntM T e).vo,H (cntM T e).no,H (cntM T e).li,H (cntM T e).le]:=(Option.some.inj (X.c hn 8 (ye Q 8 rfl))).symm
       have xT:=X.b hn
       have xF:=zg (U jN).t xT (by omega)
       obtain ⟨y0,z0,q0⟩:=ze xF (j:=0) (by omega)
       obtain ⟨y1,z1,q1⟩:=ze xF (j:=1) (by omega)
       obtain ⟨y2,z2,q2⟩:=ze xF (j:=2) (by omega)
       obtain ⟨y3,z3,q3⟩:=ze xF (j:=3) (by omega)
       obtain ⟨y4,z4,q4⟩:=ze xF (j:=4) (by omega)
       obtain ⟨y5,z5,q5⟩:=ze xF (j:=5) (by omega)
       obtain ⟨y6,z6,q6⟩:=ze xF (j:=6) (by omega)
       obtain ⟨y7,z7,q7⟩:=ze xF (j:=7) (by omega)
       clear xF
       clear Q X xo
       rw [if_pos (by rfl)];unfold Oper.wp;go_simp
       exact ⟨f,by simp [g8],ry_writeN (U xz) hn ⟨V,xT,rfl⟩⟩
      | i + 10,Z=>simp at Z
    ·have hjl':¬ (j:Int) < es.length:=by omega
     rw [yZ (by omega)] at jN
     go_wp2_with fail
     dsimp only [H,I,J,M,yj,yk,yu,yv,yw,yp,yq,eF]
     go_roundw
     case rel=>exact ⟨k + 1,by omega,by go_num,by rw [U qb]; exact U jN⟩
     case measure=>simp [intOf]; omega
  ·have un:¬ (k:Int) < gl.length:=by omega
   rw [yZ (by omega)] at ub
   go_wp2_with fail
   refine U xu _ _ ?_
   clear xu xJ un
   generalize totG { tot0 with gr:=gl.length } gl = T at HTM ub
   have jN:=Y (U ub)
   clear ub
   have k0:wr.cell? (yq w 0) = some (H next):=(U jN).k 0 _ rfl
   have k1:wr.cell? (yq w 1) = some (.slice aq l.length cq):=(U jN).k 1 _ rfl
   have jR:=Y (l04Live_any next (.slice aq l.length cq) l wr (zn (U HR) (U jN).b qt))
   generalize livS l = LV at jR HTM
   refine eH fun hj xu=>?_
   go_wp2_with fail
   refine (U jR).mono ?_
   rintro r w4 ⟨rfl,xC⟩
   clear k0 k1
   have HJ4:=Y (jt_below (U jN) xC)
   clear xC
   obtain ⟨y6,z6,q6⟩:=ze (U HJ4).t (j:=6) (by omega)
   obtain ⟨y7,z7,q7⟩:=ze (U HJ4).t (j:=7) (by omega)
   go_wp2_with fail
   refine U xu _ _ ?_
   clear xu z6 q6 z7 q7
   have kB:=Y (jt_set (U HJ4) l.length LV)
   generalize (w4.setCell (J (w.heap.size + 1 + 1) 6) (H l.length)).setCell (J (w.heap.size + 1 + 1) 7) (H LV) = V at kB ⊢
   obtain ⟨ud,uc,uf,ug,uh,ue,uu,ut⟩:=T
   simp only at HTM kB
   have c0:V.cell? (J (w.heap.size + 1 + 1) 0) = some (H ud):=(U kB).r 0 _ rfl
   obtain ⟨y0,z0,q0⟩:=ze (U kB).o (j:=0) (by omega)
   have c1:V.cell? (J (w.heap.size + 1 + 1) 1) = some (H uc):=(U kB).r 1 _ rfl
   obtain ⟨y1,z1,q1⟩:=ze (U kB).o (j:=1) (by omega)
   have c2:V.cell? (J (w.heap.size + 1 + 1) 2) = some (H uf):=(U kB).r 2 _ rfl
   obtain ⟨y2,z2,q2⟩:=ze (U kB).o (j:=2) (by omega)
   have c3:V.cell? (J (w.heap.size + 1 + 1) 3) = some (H ug):=(U kB).r 3 _ rfl
   obtain ⟨y3,z3,q3⟩:=ze (U kB).o (j:=3) (by omega)
   have c4:V.cell? (J (w.heap.size + 1 + 1) 4) = some (H uh):=(U kB).r 4 _ rfl
   obtain ⟨y4,z4,q4⟩:=ze (U kB).o (j:=4) (by omega)
   have c5:V.cell? (J (w.heap.size + 1 + 1) 5) = some (H ue):=(U kB).r 5 _ rfl
   obtain ⟨y5,z5,q5⟩:=ze (U kB).o (j:=5) (by omega)
   have c6:V.cell? (J (w.heap.size + 1 + 1) 6) = some (H l.length):=(U kB).r 6 _ rfl
   obtain ⟨y6,z6,q6⟩:=ze (U kB).o (j:=6) (by omega)
   have c7:V.cell? (J (w.heap.size + 1 + 1) 7) = some (H LV):=(U kB).r 7 _ rfl
   obtain ⟨y7,z7,q7⟩:=ze (U kB).o (j:=7) (by omega)
   have xQ:=Y (yX V (w.heap.size + 1) 0 [H ud,H uc,H uf,H ug,H uh,H ue,H l.length,H LV] (fun j K=>(U kB).o j K))
   have qf:=Y (zo (w.heap.size + 1) (by omega) [H ud,H uc,H uf,H ug,H uh,H ue,H l.length,H LV] 0 V (U kB).b)
   go_wp2_with fail
   change bodyPost _ _ _ _ _ (V.setCells (w.heap.size + 1) 0 [H ud,H uc,H uf,H ug,H uh,H ue,H l.length,H LV])
   generalize V.setCells (w.heap.size + 1) 0 [H ud,H uc,H uf,H ug,H uh,H ue,H l.length,H LV] = WE at xQ qf ⊢
   obtain ⟨d0,d1,d2,d3,d4,d5,d6,d7⟩:=yD (U xQ)
   refine bodyPost_ret (by simp [results,Tryz.results71,go_sem,d0,d1,d2,d3,d4,d5,d6,d7]; try rfl) rfl ?_
   exact ⟨by rw [U HTM],U qf⟩
end Go.Proofs.YtbakanofkghmiaaGreat
