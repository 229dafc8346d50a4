/-
  An event counted, by the model: proved by walking the function.
-/
import Derived.Test.YtbakanofkghmiaaGreatQj33
set_option linter.unusedVariables false
set_option maxHeartbeats 6400000
set_option maxRecDepth 100000
namespace Go.Proofs.YtbakanofkghmiaaGreat
open Go.RowKit
def cntM (t:Tot) (e:Ev):Tot :=
 if e.kind = 1 then { t with ac:=wrap64 (t.ac + 1) } else if e.kind = 2 then { t with rf:=wrap64 (t.rf + 1) }
 else if e.kind = 3 then { t with tr:=wrap64 (t.tr + 1),vo:=wrap64 (t.vo + e.qty),no:=wrap64 (t.no + wrap64 (e.qty * e.price)),le:=wrap64 (t.le - e.qty) }
 else if e.kind = 4 then { t with li:=wrap64 (t.li + 1),le:=wrap64 (t.le + e.qty) } else t
theorem l04Count_any (t:Tot) (e:Ev) (w:World) :
  Calls Tryz.prog 120 #[.agg #[H t.gr,H t.ac,H t.rf,H t.tr,H t.vo,H t.no,H t.li,H t.le],.agg (yv e.kind e.cmd.k e.cmd.s e.cmd.t e.cmd.l e.cmd.q e.cmd.i e.cmd.p e.cmd.g e.id e.other e.qty e.price e.reason).toArray] w fun r w'=>r = ym (.agg #[H (cntM t e).gr,H (cntM t e).ac,H (cntM t e).rf,H (cntM t e).tr,H (cntM t e).vo,H (cntM t e).no,H (cntM t e).li,H (cntM t e).le])∧yn w w':=by
 have HM:Hid (cntM t e = if e.kind = 1 then { t with ac:=wrap64 (t.ac + 1) } else if e.kind = 2 then { t with rf:=wrap64 (t.rf + 1) }
  else if e.kind = 3 then { t with tr:=wrap64 (t.tr + 1),vo:=wrap64 (t.vo + e.qty),no:=wrap64 (t.no + wrap64 (e.qty * e.price)),le:=wrap64 (t.le - e.qty) }
  else if e.kind = 4 then { t with li:=wrap64 (t.li + 1),le:=wrap64 (t.le + e.qty) } else t):=rfl
 generalize cntM t e = yl at HM ⊢
 obtain ⟨uf,ue,uh,ui,uj,ug,uu,ut⟩:=t
 simp only at HM ⊢
 have hsf:=sfl
 have xC:=zh w (E #[H uf,H ue,H uh,H ui,H uj,H ug,H uu,H ut] 30)
 have ua:((w.alloc (E #[H uf,H ue,H uh,H ui,H uj,H ug,H uu,H ut] 30)).alloc (E (yv e.kind e.cmd.k e.cmd.s e.cmd.t e.cmd.l e.cmd.q e.cmd.i e.cmd.p e.cmd.g e.id e.other e.qty e.price e.reason).toArray 46)).heap.size = w.heap.size + 1 + 1:=by rw [zh,xC]
 have jd:(((w.alloc (E #[H uf,H ue,H uh,H ui,H uj,H ug,H uu,H ut] 30)).alloc (E (yv e.kind e.cmd.k e.cmd.s e.cmd.t e.cmd.l e.cmd.q e.cmd.i e.cmd.p e.cmd.g e.id e.other e.qty e.price e.reason).toArray 46)).alloc (E #[H 0,H 0,H 0,H 0,H 0,H 0,H 0,H 0] 30)).heap.size = w.heap.size + 1 + 1 + 1:=by rw [zh,ua]
 have r1:=zi w [H uf,H ue,H uh,H ui,H uj,H ug,H uu,H ut] 30
 have t1:=zw w [H uf,H ue,H uh,H ui,H uj,H ug,H uu,H ut] 30
 have r2:=zi (w.alloc (E #[H uf,H ue,H uh,H ui,H uj,H ug,H uu,H ut] 30)) (yv e.kind e.cmd.k e.cmd.s e.cmd.t e.cmd.l e.cmd.q e.cmd.i e.cmd.p e.cmd.g e.id e.other e.qty e.price e.reason) 46
 have t3:=zw ((w.alloc (E #[H uf,H ue,H uh,H ui,H uj,H ug,H uu,H ut] 30)).alloc (E (yv e.kind e.cmd.k e.cmd.s e.cmd.t e.cmd.l e.cmd.q e.cmd.i e.cmd.p e.cmd.g e.id e.other e.qty e.price e.reason).toArray 46)) [H 0,H 0,H 0,H 0,H 0,H 0,H 0,H 0] 30
 rw [ua] at t3
 rw [xC] at r2
 have b1:=eE w (E #[H uf,H ue,H uh,H ui,H uj,H ug,H uu,H ut] 30)
 have b2:Below (w.heap.size + 1) (w.alloc (E #[H uf,H ue,H uh,H ui,H uj,H ug,H uu,H ut] 30)) ((w.alloc (E #[H uf,H ue,H uh,H ui,H uj,H ug,H uu,H ut] 30)).alloc (E (yv e.kind e.cmd.k e.cmd.s e.cmd.t e.cmd.l e.cmd.q e.cmd.i e.cmd.p e.cmd.g e.id e.other e.qty e.price e.reason).toArray 46)):=(Below.refl _ _).alloc (by omega) _
 have b3:Below (w.heap.size + 1 + 1) ((w.alloc (E #[H uf,H ue,H uh,H ui,H uj,H ug,H uu,H ut] 30)).alloc (E (yv e.kind e.cmd.k e.cmd.s e.cmd.t e.cmd.l e.cmd.q e.cmd.i e.cmd.p e.cmd.g e.id e.other e.qty e.price e.reason).toArray 46)) (((w.alloc (E #[H uf,H ue,H uh,H ui,H uj,H ug,H uu,H ut] 30)).alloc (E (yv e.kind e.cmd.k e.cmd.s e.cmd.t e.cmd.l e.cmd.q e.cmd.i e.cmd.p e.cmd.g e.id e.other e.qty e.price e.reason).toArray 46)).alloc (E #[H 0,H 0,H 0,H 0,H 0,H 0,H 0,H 0] 30)):=(Below.refl _ _).alloc (by omega) _
 have HX:Hid (_∧_∧_∧_∧_):=⟨zb (zb r1 b2 (by omega)) b3 (by omega),zg (zg t1 b2 (by omega)) b3 (by omega),t3,(b1.trans (b2.mono (by omega))).trans (b3.mono (by omega)),Nat.le_of_eq jd.symm⟩
 have vH:=Y (zb r2 b3 (by omega))
 clear xC ua jd r1 r2 t1 t3 b1 b2 b3
 go_enter Tryz.func120,Tryz.ntmps120
 refine eI fun hR xv=>?_
 go_wp2_with fail
 refine U xv _ _ ?_
 clear xv
 generalize (((w.alloc (E #[H uf,H ue,H uh,H ui,H uj,H ug,H uu,H ut] 30)).alloc (E (yv e.kind e.cmd.k e.cmd.s e.cmd.t e.cmd.l e.cmd.q e.cmd.i e.cmd.p e.cmd.g e.id e.other e.qty e.price e.reason).toArray 46)).alloc (E #[H 0,H 0,H 0,H 0,H 0,H 0,H 0,H 0] 30)) = hb at HX vH ⊢
 have HX:Hid (hb.rangeAt w.heap.size 0 [H uf,H ue,H uh,H ui,H uj,H ug,H uu,H ut]∧hb.there w.heap.size 0 8∧hb.there (w.heap.size + 1 + 1) 0 8∧yn w hb∧w.heap.size + 1 + 1 + 1 ≤ hb.heap.size):=U HX
 obtain ⟨g0,g1,g2,g3,g4,g5,g6,g7,g8,g9,qx,vw,xZ,jV⟩:=cw (U vH)
 clear g1 g2 g3 g4 g5 g6 g7 g8 g9 qx jV vH
 simp only [Nat.zero_add] at vw xZ
 have d0:hb.cell? (yq w 0) = some (H uf):=(U HX).1 0 _ rfl
 have p0:hb.frozen? (yq w 0) = false:=by have:=((U HX).2.1 0 (by omega)).2; rwa [Nat.zero_add] at this
 have d1:hb.cell? (yq w 1) = some (H ue):=(U HX).1 1 _ rfl
 have p1:hb.frozen? (yq w 1) = false:=by have:=((U HX).2.1 1 (by omega)).2; rwa [Nat.zero_add] at this
 have d2:hb.cell? (yq w 2) = some (H uh):=(U HX).1 2 _ rfl
 have p2:hb.frozen? (yq w 2) = false:=by have:=((U HX).2.1 2 (by omega)).2; rwa [Nat.zero_add] at this
 have d3:hb.cell? (yq w 3) = some (H ui):=(U HX).1 3 _ rfl
 have p3:hb.frozen? (yq w 3) = false:=by have:=((U HX).2.1 3 (by omega)).2; rwa [Nat.zero_add] at this
 have d4:hb.cell? (yq w 4) = some (H uj):=(U HX).1 4 _ rfl
 have p4:hb.frozen? (yq w 4) = false:=by have:=((U HX).2.1 4 (by omega)).2; rwa [Nat.zero_add] at this
 have d5:hb.cell? (yq w 5) = some (H ug):=(U HX).1 5 _ rfl
 have p5:hb.frozen? (yq w 5) = false:=by have:=((U HX).2.1 5 (by omega)).2; rwa [Nat.zero_add] at this
 have d6:hb.cell? (yq w 6) = some (H uu):=(U HX).1 6 _ rfl
 have p6:hb.frozen? (yq w 6) = false:=by have:=((U HX).2.1 6 (by omega)).2; rwa [Nat.zero_add] at this
 have d7:hb.cell? (yq w 7) = some (H ut):=(U HX).1 7 _ rfl
 have p7:hb.frozen? (yq w 7) = false:=by have:=((U HX).2.1 7 (by omega)).2; rwa [Nat.zero_add] at this
 refine eI fun hR xv=>?_
 have HT:Hid (∀ (V:World) (T:Tot) (u5 u6 u7 u8 u9 u10 u11 u12 u13 u14 u15 u16 u17 u18 u19 u20 u21 u22 u23 u24 u25 u26 u27 u28 u29 u30 u31 u32 u33 u34 u35 u36 u37 u38 u39 u40 u41 u42 u43 u44 u45 u46 u47 u48 u49 u50 u51 u52 u53 u54 u55 u56 u57:Value),yl = T→(V.rangeAt w.heap.size 0 T.vs∧V.there w.heap.size 0 8∧V.there (w.heap.size + 1 + 1) 0 8∧yn w V∧w.heap.size + 1 + 1 + 1 ≤ V.heap.size)→hR { tmps:=#[.agg #[H uf,H ue,H uh,H ui,H uj,H ug,H uu,H ut],.agg (yv e.kind e.cmd.k e.cmd.s e.cmd.t e.cmd.l e.cmd.q e.cmd.i e.cmd.p e.cmd.g e.id e.other e.qty e.price e.reason).toArray,yp w 0,I (w.heap.size + 1) 0,I (w.heap.size + 1 + 1) 0,u5,u6,u7,u8,u9,u10,u11,u12,u13,u14,u15,u16,u17,u18,u19,u20,u21,u22,u23,u24,u25,u26,u27,u28,u29,u30,u31,u32,u33,u34,u35,u36,u37,u38,u39,u40,u41,u42,u43,u44,u45,u46,u47,u48,u49,u50,u51,u52,u53,u54,u55,u56,u57,M],defers:=[] } V):=by
  intro V T u5 u6 u7 u8 u9 u10 u11 u12 u13 u14 u15 u16 u17 u18 u19 u20 u21 u22 u23 u24 u25 u26 u27 u28 u29 u30 u31 u32 u33 u34 u35 u36 u37 u38 u39 u40 u41 u42 u43 u44 u45 u46 u47 u48 u49 u50 u51 u52 u53 u54 u55 u56 u57 hMT ux
  have HY:=Y ux
  have om:=Y hMT
  clear ux hMT HM HX g0 vw xZ d0 p0 d1 p1 d2 p2 d3 p3 d4 p4 d5 p5 d6 p6 d7 p7
  obtain ⟨agr,aac,arf,atr,avo,ano,ali,ale⟩:=T
  have c0:V.cell? (yq w 0) = some (H agr):=(U HY).1 0 _ rfl
  obtain ⟨y0,z0,q0⟩:=ze (U HY).2.2.1 (j:=0) (by omega)
  have c1:V.cell? (yq w 1) = some (H aac):=(U HY).1 1 _ rfl
  obtain ⟨y1,z1,q1⟩:=ze (U HY).2.2.1 (j:=1) (by omega)
  have c2:V.cell? (yq w 2) = some (H arf):=(U HY).1 2 _ rfl
  obtain ⟨y2,z2,q2⟩:=ze (U HY).2.2.1 (j:=2) (by omega)
  have c3:V.cell? (yq w 3) = some (H atr):=(U HY).1 3 _ rfl
  obtain ⟨y3,z3,q3⟩:=ze (U HY).2.2.1 (j:=3) (by omega)
  have c4:V.cell? (yq w 4) = some (H avo):=(U HY).1 4 _ rfl
  obtain ⟨y4,z4,q4⟩:=ze (U HY).2.2.1 (j:=4) (by omega)
  have c5:V.cell? (yq w 5) = some (H ano):=(U HY).1 5 _ rfl
  obtain ⟨y5,z5,q5⟩:=ze (U HY).2.2.1 (j:=5) (by omega)
  have c6:V.cell? (yq w 6) = some (H ali):=(U HY).1 6 _ rfl
  obtain ⟨y6,z6,q6⟩:=ze (U HY).2.2.1 (j:=6) (by omega)
  have c7:V.cell? (yq w 7) = some (H ale):=(U HY).1 7 _ rfl
  obtain ⟨y7,z7,q7⟩:=ze (U HY).2.2.1 (j:=7) (by omega)
  have xR:=Y (yY V (w.heap.size + 1 + 1) 0 [H agr,H aac,H arf,H atr,H avo,H ano,H ali,H ale] (fun j R=>(U HY).2.2.1 j R))
  have qf:=Y (zo (w.heap.size + 1 + 1) (by omega) [H agr,H aac,H arf,H atr,H avo,H ano,H ali,H ale] 0 V (U HY).2.2.2.1)
  refine U xv _ _ ?_
  clear xv
  go_wp2_with fail
  change bodyPost _ _ _ _ _ (V.setCells (w.heap.size + 1 + 1) 0 [H agr,H aac,H arf,H atr,H avo,H ano,H ali,H ale])
  generalize V.setCells (w.heap.size + 1 + 1) 0 [H agr,H aac,H arf,H atr,H avo,H ano,H ali,H ale] = WE at xR qf ⊢
  obtain ⟨d0,d1,d2,d3,d4,d5,d6,d7⟩:=yE (U xR)
  refine bodyPost_ret (by simp [results,Tryz.results120,go_sem,d0,d1,d2,d3,d4,d5,d6,d7]; try rfl) rfl ?_
  exact ⟨by rw [U om],U qf⟩
 clear xv
 by_cases Q:e.kind = 1
 ·have b1:(e.kind == 1) = true:=by simpa using Q
  have HE:=Y ((U HM).trans (if_pos Q))
  clear HM Q
  go_wp2_with fail
  exact U HT _ (Tot.mk uf (wrap64 (ue + 1)) uh ui uj ug uu ut) _ _ _ _ _ _ _ _ _ _ _ _ _ _ _ _ _ _ _ _ _ _ _ _ _ _ _ _ _ _ _ _ _ _ _ _ _ _ _ _ _ _ _ _ _ _ _ _ _ _ _ _ _ (U HE) (keepB (U HX) 1 (by simp) _)
 have b1:(e.kind == 1) = false:=by rw [xe]; exact Q
 by_cases N:e.kind = 2
 ·have b2:(e.kind == 2) = true:=by simpa using N
  have HE:=Y ((U HM).trans ((if_neg Q).trans (if_pos N)))
  clear HM Q N
  go_wp2_with fail
  exact U HT _ (Tot.mk uf ue (wrap64 (uh + 1)) ui uj ug uu ut) _ _ _ _ _ _ _ _ _ _ _ _ _ _ _ _ _ _ _ _ _ _ _ _ _ _ _ _ _ _ _ _ _ _ _ _ _ _ _ _ _ _ _ _ _ _ _ _ _ _ _ _ _ (U HE) (keepB (U HX) 2 (by simp) _)
 have b2:(e.kind == 2) = false:=by rw [xe]; exact N
 by_cases h3:e.kind = 3
 ·have b3:(e.kind == 3) = true:=by simpa using h3
  have HE:=Y ((U HM).trans ((if_neg Q).trans ((if_neg N).trans (if_pos h3))))
  clear HM Q N h3
  go_wp2_with fail
  exact U HT _ (Tot.mk uf ue uh (wrap64 (ui + 1)) (wrap64 (uj + e.qty)) (wrap64 (ug + wrap64 (e.qty * e.price))) uu (wrap64 (ut - e.qty))) _ _ _ _ _ _ _ _ _ _ _ _ _ _ _ _ _ _ _ _ _ _ _ _ _ _ _ _ _ _ _ _ _ _ _ _ _ _ _ _ _ _ _ _ _ _ _ _ _ _ _ _ _ (U HE) (keepB (keepB (keepB (keepB (U HX) 3 (by simp) _) 4 (by simp) _) 5 (by simp) _) 7 (by simp) _)
 have b3:(e.kind == 3) = false:=by rw [xe]; exact h3
 by_cases h4:e.kind = 4
 ·have b4:(e.kind == 4) = true:=by simpa using h4
  have HE:=Y ((U HM).trans ((if_neg Q).trans ((if_neg N).trans ((if_neg h3).trans (if_pos h4)))))
  clear HM Q N h3 h4
  go_wp2_with fail
  exact U HT _ (Tot.mk uf ue uh ui uj ug (wrap64 (uu + 1)) (wrap64 (ut + e.qty))) _ _ _ _ _ _ _ _ _ _ _ _ _ _ _ _ _ _ _ _ _ _ _ _ _ _ _ _ _ _ _ _ _ _ _ _ _ _ _ _ _ _ _ _ _ _ _ _ _ _ _ _ _ (U HE) (keepB (keepB (U HX) 6 (by simp) _) 7 (by simp) _)
 have b4:(e.kind == 4) = false:=by rw [xe]; exact h4
 have HE:=Y ((U HM).trans ((if_neg Q).trans ((if_neg N).trans ((if_neg h3).trans (if_neg h4)))))
 clear HM Q N h3 h4
 go_wp2_with fail
 exact U HT _ (Tot.mk uf ue uh ui uj ug uu ut) _ _ _ _ _ _ _ _ _ _ _ _ _ _ _ _ _ _ _ _ _ _ _ _ _ _ _ _ _ _ _ _ _ _ _ _ _ _ _ _ _ _ _ _ _ _ _ _ _ _ _ _ _ (U HE) (U HX)
def RdG (W:World) (v:Value) (gl:List (List Ev)):Prop :=
 ∃ (a:Option Addr) (A:Nat),v = .slice a gl.length A∧gl.length ≤ 1073741824 ∧
  (gl ≠ []→∃ b off,a = some (J b off)∧b < W.heap.size∧∀ i es,gl[i]? = some es→∃ g,W.cell? (J b (off + i)) = some g∧RdR Ev.vs 14 W g es)
theorem du {C:Nat} {W W':World} {v:Value} {gl:List (List Ev)} (h:RdG W v gl) (X:Below C W W') (hC:W.heap.size ≤ C):RdG W' v gl:=by
 obtain ⟨a,A,e,hl,hc⟩:=h
 refine ⟨a,A,e,hl,fun xB=>?_⟩
 obtain ⟨b,off,Q,N,h3⟩:=hc xB
 refine ⟨b,off,Q,yK N X.size,fun i es hi=>?_⟩
 obtain ⟨g,h4,h5⟩:=h3 i es hi
 exact ⟨g,(X.cell (p:=(J b (off + i))) (yK N hC)).trans h4,zn h5 X hC⟩
def totG (t:Tot) (gl:List (List Ev)):Tot:=gl.foldl (fun t es=>es.foldl cntM t) t
def totM (gl:List (List Ev)) (l:List Od):Tot:={ totG { tot0 with gr:=gl.length } gl with li:=l.length,le:=livS l }
theorem totG_step (t:Tot) (gl:List (List Ev)) {k:Nat} {es:List Ev} (h:gl[k]? = some es):totG t (gl.take (k + 1)) = es.foldl cntM (totG t (gl.take k)):=by
 unfold totG
 rw [List.take_add_one,h,List.foldl_append]; rfl
theorem cntM_step (t:Tot) (es:List Ev) {k:Nat} {e:Ev} (h:es[k]? = some e):(es.take (k + 1)).foldl cntM t = cntM ((es.take k).foldl cntM t) e:=by
 rw [List.take_add_one,h,List.foldl_append]; rfl
structure JT (w:World) (bk:List Value) (W:World) (T:Tot):Prop where
 r:W.rangeAt (w.heap.size + 1 + 1) 0 T.vs
 t:W.there (w.heap.size + 1 + 1) 0 8
 o:W.there (w.heap.size + 1) 0 8
 k:W.rangeAt w.heap.size 0 bk
 b:Below w.heap.size w W
 z:w.heap.size + 1 + 1 + 1 ≤ W.heap.size
theorem jt_step {w W V:World} {bk:List Value} {T T':Tot} (h:JT w bk W T) (X:yn W V):JT w bk (V.setCells (w.heap.size + 1 + 1) 0 T'.vs) T':=by
 have hz:=h.z
 have hk:∀ b,b < w.heap.size + 1 + 1→(V.setCells (w.heap.size + 1 + 1) 0 T'.vs).heap[b]? = W.heap[b]?:=fun b kw=>(di _ b (by omega) _ 0 V).trans (X.block b (by omega))
 have jr:=zg h.t X (by omega)
 refine ⟨yY V _ 0 _ (fun j R=>jr j (by simpa [Tot.vs] using R)),fun j R=>⟨?_,?_⟩,there_blk h.o (hk _ (by omega)),fun j u R=>?_,zo (w.heap.size + 1 + 1) (by omega) _ 0 V (h.b.trans (X.mono h.b.size)),by rw [bZ]; exact yO hz X.size⟩
 ·have:=yY V (w.heap.size + 1 + 1) 0 T'.vs (fun j R=>jr j (by simpa [Tot.vs] using R)) j (T'.vs[j]'(by simpa [Tot.vs] using R)) (yI _)
  rw [this]; rfl
 ·rw [ed]; exact (jr j R).2
 ·rw [yR (a:=(yq w (0 + j))) (hk w.heap.size (by omega))]; exact h.k j u R
theorem jt_below {w W V:World} {bk:List Value} {T:Tot} (h:JT w bk W T) (X:yn W V):JT w bk V T:=by
 have hz:=h.z
 exact ⟨zb h.r X (by omega),zg h.t X (by omega),zg h.o X (by omega),zb h.k X (by omega),h.b.trans (X.mono h.b.size),yO hz X.size⟩
theorem jt_set {w W:World} {bk:List Value} {T:Tot} (h:JT w bk W T) (x y:Int):JT w bk ((W.setCell (J (w.heap.size + 1 + 1) 6) (H x)).setCell (J (w.heap.size + 1 + 1) 7) (H y)) { T with li:=x,le:=y }:=by
 have r1:=cA (j:=6) (u:=H x) h.r (by simp [Tot.vs])
 have r2:=cA (j:=7) (u:=H y) r1 (by simp [Tot.vs])
 refine ⟨r2,zE (zE h.t),zE (zE h.o),fun j u R=>?_,(h.b.setCell (p:=(J (w.heap.size + 1 + 1) 6)) (show w.heap.size ≤ w.heap.size + 1 + 1 by omega) _).setCell (p:=(J (w.heap.size + 1 + 1) 7)) (show w.heap.size ≤ w.heap.size + 1 + 1 by omega) _,by simp only [World.setCell,Array.size_modify]; exact h.z⟩
 have xB:∀ q:Nat,((J (w.heap.size + 1 + 1) q):Addr) ≠ (yq w (0 + j)):=fun q e=>by have:=congrArg Addr.block e; simp at this; omega
 exact (yM _ _ _ _ (xB 7)).trans ((yM _ _ _ _ (xB 6)).trans (h.k j u R))
def CV (vs:List Value) (W:World) (j:Nat) (v:Value):Prop:=vs[j]? = some v
theorem l04Totals_any (v:Value) (gl:List (List Ev)) (next:Int) (vq:Value) (l:List Od) (w:World) (hg:RdG w v gl) (hr:RdR Od.vs 6 w vq l) :
  Calls Tryz.prog 71 #[v,.agg #[H next,vq]] w fun r w'=>r = ym (.agg #[H (totM gl l).gr,H (totM gl l).ac,H (totM gl l).rf,H (totM gl l).tr,H (totM gl l).vo,H (totM gl l).no,H (totM gl l).li,H (totM gl l).le])∧yn w w':=by
 have HR:=Y hr
 obtain ⟨aq,cq,rfl,hlq,hcq⟩:=hr
 clear hcq hlq
 obtain ⟨a,A,rfl,xG,hc⟩:=hg
 have xr:∀ (k:Nat) (es:List Ev),gl[k]? = some es→∃ b off,a = some (J b off)∧b < w.heap.size∧∃ ae ce,es.length ≤ 1073741824∧w.cell? (J b (off + k)) = some (.slice ae es.length ce)∧∀ (j:Nat) (e:Ev),es[j]? = some e→∃ b' uM,ae = some (J b' uM)∧b' < w.heap.size∧w.rangeAt b' (uM + j * 14) e.vs:=by
  intro k es hk
  obtain ⟨b,off,Q,N,h3⟩:=hc (by intro h; rw [h] at hk; simp at hk)
  obtain ⟨g,h4,ae,ce,rfl,hel,h5⟩:=h3 k es hk
  refine ⟨b,off,Q,N,ae,ce,hel,h4,fun j e R=>?_⟩
  obtain ⟨b',uM,k1,k2,k3⟩:=h5 (by intro h; rw [h] at R; simp at R)
  exact ⟨b',uM,k1,k2,k3 j e R⟩
 have HC:=Y xr
 clear xr hc
 have hsf:=sfl
 have HTM:Hid (totM gl l = { totG { tot0 with gr:=gl.length } gl with li:=l.length,le:=livS l }):=rfl
 generalize totM gl l = TM at HTM ⊢
 have xC:=zh w (E #[H next,.slice aq l.length cq] 28)
 have ua:((w.alloc (E #[H next,.slice aq l.length cq] 28)).alloc (E #[H 0,H 0,H 0,H 0,H 0,H 0,H 0,H 0] 30)).heap.size = w.heap.size + 1 + 1:=by rw [zh,xC]
 have r1:=zi w [H next,.slice aq l.length cq] 28
 have t2:=zw (w.alloc (E #[H next,.slice aq l.length cq] 28)) [H 0,H 0,H 0,H 0,H 0,H 0,H 0,H 0] 30
 rw [xC] at t2
 have b1:=eE w (E #[H next,.slice aq l.length cq] 28)
 have b2:Below (w.heap.size + 1) (w.alloc (E #[H next,.slice aq l.length cq] 28)) ((w.alloc (E #[H next,.slice aq l.length cq] 28)).alloc (E #[H 0,H 0,H 0,H 0,H 0,H 0,H 0,H 0] 30)):=(Below.refl _ _).alloc (by omega) _
 have HX:Hid (_∧_∧_∧_):=⟨zb r1 b2 (by omega),t2,b1.trans (b2.mono (by omega)),ua⟩
 clear xC ua r1 t2 b1 b2
 go_enter Tryz.func71,Tryz.ntmps71
 refine eI fun hR xv=>?_
 go_wp2_with fail
 refine U xv _ _ ?_
 clear xv
 generalize ((w.alloc (E #[H next,.slice aq l.length cq] 28)).alloc (E #[H 0,H 0,H 0,H 0,H 0,H 0,H 0,H 0] 30)) = hb at HX ⊢
 have HX:Hid (hb.rangeAt w.heap.size 0 [H next,.slice aq l.length cq]∧hb.there (w.heap.size + 1) 0 8∧yn w hb∧hb.heap.size = w.heap.size + 1 + 1):=U HX
 have hXs:=(U HX).2.2.2
 have HJ:Hid (JT w [H next,.slice aq l.length cq] (hb.alloc (E #[H gl.length,H 0,H 0,H 0,H 0,H 0,H 0,H 0] 30)) (totG { tot0 with gr:=gl.length } (gl.take 0))):=by
  have b3:=eE hb (E #[H gl.length,H 0,H 0,H 0,H 0,H 0,H 0,H 0] 30)
  have r3:=zi hb [H gl.length,H 0,H 0,H 0,H 0,H 0,H 0,H 0] 30
  have t3:=zw hb [H gl.length,H 0,H 0,H 0,H 0,H 0,H 0,H 0] 30
  rw [hXs] at r3 t3
  exact ⟨r3,t3,zg (U HX).2.1 b3 (by omega),zb (U HX).1 b3 (by omega),(U HX).2.2.1.trans (b3.mono (by omega)),by rw [zh]; omega⟩
 refine eI fun hR xv=>?_
 go_wp2_with fail
 refine U xv _ _ ?_
 clear xv
 generalize (hb.alloc (E #[H gl.length,H 0,H 0,H 0,H 0,H 0,H 0,H 0] 30)) = yb at HJ ⊢
 clear hXs HX
 refine eI fun hR xv=>?_
 go_wp2_with fail
 go_loopw [6] (fun iv wr=>∃ (k:Nat),k ≤ gl.length∧iv = H k∧Hid (JT w [H next,.slice aq l.length cq] wr (totG { tot0 with gr:=gl.length } (gl.take k)))) (fun iv _=>gl.length - (intOf iv).toNat)
 case atStart=>exact ⟨0,Nat.zero_le _,rfl,U HJ⟩
 case round =>
  obtain ⟨k,hk,rfl,ux⟩:=hrel
  by_cases xL:k < gl.length
  ·obtain ⟨es,jh⟩:∃ es,gl[k]? = some es:=⟨_,yI xL⟩
   obtain ⟨b,off,rfl,X,ae,ce,hel,hcg,hev⟩:=U HC k es jh
   have vF:=Y (totG_step { tot0 with gr:=gl.length } gl jh)
   have uy:(k:Int) < gl.length:=by omega
   have HCG:=Y hcg
   have vH:=Y hev
   generalize totG { tot0 with gr:=gl.length } (gl.take k) = T0 at vF ux
   have HJ1:Hid (JT w [H next,.slice aq l.length cq] wr ((es.take 0).foldl cntM T0)):=U ux
   clear jh hcg hev ux
   go_wp2_with fail
   go_loopw [7] (fun jv wq=>∃ (j:Nat),j ≤ es.length∧jv = H j∧Hid (JT w [H next,.slice aq l.length cq] wq ((es.take j).foldl cntM T0))) (fun jv _=>es.length - (intOf jv).toNat)
   case atStart=>exact ⟨0,Nat.zero_le _,rfl,U HJ1⟩
   case round =>
    obtain ⟨j,R,rfl,ux⟩:=hrel
    have jN:=Y (U ux)
    clear ux
    have gc:wr.cell? (J b (off + k)) = some (.slice ae es.length ce):=((U jN).b.cell (p:=(J b (off + k))) X).trans (U HCG)
    by_cases hjl:j < es.length
    ·obtain ⟨e,hje⟩:∃ e,es[j]? = some e:=⟨_,yI hjl⟩
     obtain ⟨b',uM,rfl,kw,pQ⟩:=U vH j e hje
     have ax:=Y (cntM_step T0 es hje)
     have hjl':(j:Int) < es.length:=by omega
     have vJ:=Y (zb pQ (U jN).b kw)
     have ou:b' < wr.heap.size:=yK kw (U jN).b.size
     have hbg:b < wr.heap.size:=yK X (U jN).b.size
     have qW:=(U jN).z
     generalize (es.take j).foldl cntM T0 = T at ax jN
     clear hje pQ
     go_wp2_with fail
     refine zj (RYA (fun f=>{ tmps:=#[.slice (some (J b off)) gl.length A,.agg #[H next,.slice aq l.length cq],M,yp w 0,I (w.heap.size + 1) 0,I (w.heap.size + 1 + 1) 0,H k,H j,.slice (some (J b off)) gl.length A,H gl.length,.agg #[H gl.length,H 0,H 0,H 0,H 0,H 0,H 0,H 0],H k,.slice (some (J b off)) gl.length A,H gl.length,.bool true,u15,u16,H j,.slice (some (J b off)) gl.length A,H k,I b (off + k),.slice (some (J b' uM)) es.length ce,H es.length,.bool true,u24,u25,f 0,f 1,f 2,f 3,f 4,f 5,f 6,f 7,f 8,M,M,M,M,M,M,M,M],defers:=[] }) (CV [.agg #[H T.gr,H T.ac,H T.rf,H T.tr,H T.vo,H T.no,H T.li,H T.le],.slice (some (J b off)) gl.length A,H k,I b (off + k),.slice (some (J b' uM)) es.length ce,H j,I b' (uM + j * 14),.agg (yv e.kind e.cmd.k e.cmd.s e.cmd.t e.cmd.l e.cmd.q e.cmd.i e.cmd.p e.cmd.g e.id e.other e.qty e.price e.reason).toArray,.agg #[H (cntM T e).gr,H (cntM T e).ac,H (cntM T e).rf,H (cntM T e).tr,H (cntM T e).vo,H (cntM T e).no,H (cntM T e).li,H (cntM T e).le]]) 9 (fun _ W=>∃ V,yn wr V∧W = V.setCells (w.heap.size + 1 + 1) 0 (cntM T e).vs) wr) (by kernel_rfl) ?_ ?_ ?_
     ·exact ⟨fun j=>([u26,u27,u28,u29,u30,u31,u32,u33,u34]:List Value)[j]?.getD M,rfl,ry_start (by decide)⟩
     ·rintro x xn V ⟨f,rfl,K⟩ hx xN
      have xq:=zS xN hx (acyc _ (by kernel_rfl))
      obtain ⟨V2,xX,eV⟩:=K.m (xq 9 (by simp))
      dsimp only
      generalize f 0 = v0,f 1 = v1,f 2 = v2,f 3 = v3,f 4 = v4,f 5 = v5,f 6 = v6,f 7 = v7,f 8 = v8
      have HJ3:Hid (JT w [H next,.slice aq l.length cq] V (cntM T e)):=by rw [eV]; exact jt_step (U jN) xX
      clear eV xX K xq xN hx vJ gc
      go_wp2_with fail
      dsimp only [H,I,J,M,yj,yk,yv,yw,yx,yp,yq,E]
      go_roundw
      case rel=>exact ⟨j + 1,by omega,by go_num,by rw [U ax]; exact U HJ3⟩
      case measure=>simp [intOf]; omega
     ·rintro x xn V i op ⟨f,rfl,K⟩ xp hx Z xz D
      have xA:=Y K
      match i,Z with
      | 0,Z =>
       obtain rfl:=ya Z
       have hn:x[9]? = some false:=zz xp 12 0 9 (by kernel_rfl) hx (by simp) xz
       have xT:=K.b hn
       have y0:=zb (U jN).r xT (by omega) 0 _ rfl
       have y1:=zb (U jN).r xT (by omega) 1 _ rfl
       have y2:=zb (U jN).r xT (by omega) 2 _ rfl
       have y3:=zb (U jN).r xT (by omega) 3 _ rfl
       have y4:=zb (U jN).r xT (by omega) 4 _ rfl
       have y5:=zb (U jN).r xT (by omega) 5 _ rfl
       have y6:=zb (U jN).r xT (by omega) 6 _ rfl
       have y7:=zb (U jN).r xT (by omega) 7 _ rfl
       clear D K xp
       rw [if_pos (by rfl)];unfold Oper.wp;go_simp
       exact ⟨upd f 0 (.agg #[H T.gr,H T.ac,H T.rf,H T.tr,H T.vo,H T.no,H T.li,H T.le]),by simp [upd],zY (U xA) 0 _ hn (by decide) rfl⟩
      | 1,Z =>
       obtain rfl:=ya Z
       have hn:x[9]? = some false:=zz xp 12 1 9 (by kernel_rfl) hx (by simp) xz
       clear D K xp
       rw [if_pos (by rfl)];unfold Oper.wp;go_simp
       exact ⟨upd f 1 (.slice (some (J b off)) gl.length A),by simp [upd],zY (U xA) 1 _ hn (by decide) rfl⟩
      | 2,Z =>
       obtain rfl:=ya Z
       have hn:x[9]? = some false:=zz xp 12 2 9 (by kernel_rfl) hx (by simp) xz
       clear D K xp
       rw [if_pos (by rfl)];unfold Oper.wp;go_simp
       exact ⟨upd f 2 (H k),by simp [upd],zY (U xA) 2 _ hn (by decide) rfl⟩
      | 3,Z =>
       obtain rfl:=ya Z
       have hn:x[9]? = some false:=zz xp 12 3 9 (by kernel_rfl) hx (by simp) xz
       have g1:f 1 = .slice (some (J b off)) gl.length A:=(Option.some.inj (K.c hn 1 (ye D 1 rfl))).symm
       have g2:f 2 = H k:=(Option.some.inj (K.c hn 2 (ye D 2 rfl))).symm
       clear D K xp
       rw [if_pos (by rfl)];unfold Oper.wp;go_simp
       exact ⟨upd f 3 (I b (off + k)),by simp [upd,g1,g2],zY (U xA) 3 _ hn (by decide) rfl⟩
      | 4,Z =>
       obtain rfl:=ya Z
       have hn:x[9]? = some false:=zz xp 12 4 9 (by kernel_rfl) hx (by simp) xz
       have g3:f 3 = I b (off + k):=(Option.some.inj (K.c hn 3 (ye D 3 rfl))).symm
       have xT:=K.b hn
       have y0:=(xT.cell (p:=(J b (off + k))) hbg).trans gc
       clear D K xp
       rw [if_pos (by rfl)];unfold Oper.wp;go_simp
       exact ⟨upd f 4 (.slice (some (J b' uM)) es.length ce),by simp [upd,g3],zY (U xA) 4 _ hn (by decide) rfl⟩
      | 5,Z =>
       obtain rfl:=ya Z
       have hn:x[9]? = some false:=zz xp 12 5 9 (by kernel_rfl) hx (by simp) xz
       clear D K xp
       rw [if_pos (by rfl)];unfold Oper.wp;go_simp
       exact ⟨upd f 5 (H j),by simp [upd],zY (U xA) 5 _ hn (by decide) rfl⟩
      | 6,Z =>
       obtain rfl:=ya Z
       have hn:x[9]? = some false:=zz xp 12 6 9 (by kernel_rfl) hx (by simp) xz
       have g4:f 4 = .slice (some (J b' uM)) es.length ce:=(Option.some.inj (K.c hn 4 (ye D 4 rfl))).symm
       have g5:f 5 = H j:=(Option.some.inj (K.c hn 5 (ye D 5 rfl))).symm
       clear D K xp
       rw [if_pos (by rfl)];unfold Oper.wp;go_simp
       exact ⟨upd f 6 (I b' (uM + j * 14)),by simp [upd,g4,g5],zY (U xA) 6 _ hn (by decide) rfl⟩
      | 7,Z =>
       obtain rfl:=ya Z
       have hn:x[9]? = some false:=zz xp 12 7 9 (by kernel_rfl) hx (by simp) xz
       have g6:f 6 = I b' (uM + j * 14):=(Option.some.inj (K.c hn 6 (ye D 6 rfl))).symm
       have xT:=K.b hn
       obtain ⟨e0,e1,e2,e3,e4,e5,e6,e7,e8,e9,oG,e11,e12,e13⟩:=cw (zb (U vJ) xT ou)
       clear D K xp
       rw [if_pos (by rfl)];unfold Oper.wp;go_simp
       exact ⟨upd f 7 (.agg (yv e.kind e.cmd.k e.cmd.s e.cmd.t e.cmd.l e.cmd.q e.cmd.i e.cmd.p e.cmd.g e.id e.other e.qty e.price e.reason).toArray),by simp [upd,g6],zY (U xA) 7 _ hn (by decide) rfl⟩
      | 8,Z =>
       obtain rfl:=ya Z
       have hn:x[9]? = some false:=zz xp 12 8 9 (by kernel_rfl) hx (by simp) xz
       have g0:f 0 = .agg #[H T.gr,H T.ac,H T.rf,H T.tr,H T.vo,H T.no,H T.li,H T.le]:=(Option.some.inj (K.c hn 0 (ye D 0 rfl))).symm
       have g7:f 7 = .agg (yv e.kind e.cmd.k e.cmd.s e.cmd.t e.cmd.l e.cmd.q e.cmd.i e.cmd.p e.cmd.g e.id e.other e.qty e.price e.reason).toArray:=(Option.some.inj (K.c hn 7 (ye D 7 rfl))).symm
       have xT:=K.b hn
       clear D K xp
       rw [if_pos (by rfl)];unfold Oper.wp;go_simp
       refine (l04Count_any T e V).mono ?_
       rintro r w4 ⟨rfl,xD⟩
       exact ⟨upd f 8 (.agg #[H (cntM T e).gr,H (cntM T e).ac,H (cntM T e).rf,H (cntM T e).tr,H (cntM T e).vo,H (cntM T e).no,H (cntM T e).li,H (cntM T e).le]),by simp [upd,g0,g7],zY (ry_grow (fun _ _ _ _ _ h=>h) (U xA) hn xD) 8 _ hn (by decide) rfl⟩
      | 9,Z =>
       obtain rfl:=ya Z
       have hn:x[9]? = some false:=xz
       have g8:f 8 = .agg #[H (cntM T e).gr,H (cntM T e).ac,H (cntM T e).rf,H (cntM T e).tr,H (cntM T e).vo,H (cntM T e).no,H (cntM T e).li,H (cntM T e).le]:=(Option.some.inj (K.c hn 8 (ye D 8 rfl))).symm
       have xT:=K.b hn
       have xF:=zg (U jN).t xT (by omega)
       obtain ⟨y0,z0,q0⟩:=ze xF (j:=0) (by omega)
       obtain ⟨y1,z1,q1⟩:=ze xF (j:=1) (by omega)
       obtain ⟨y2,z2,q2⟩:=ze xF (j:=2) (by omega)
       obtain ⟨y3,z3,q3⟩:=ze xF (j:=3) (by omega)
       obtain ⟨y4,z4,q4⟩:=ze xF (j:=4) (by omega)
       obtain ⟨y5,z5,q5⟩:=ze xF (j:=5) (by omega)
       obtain ⟨y6,z6,q6⟩:=ze xF (j:=6) (by omega)
       obtain ⟨y7,z7,q7⟩:=ze xF (j:=7) (by omega)
       clear xF
       clear D K xp
       rw [if_pos (by rfl)];unfold Oper.wp;go_simp
       exact ⟨f,by simp [g8],ry_writeN (U xA) hn ⟨V,xT,rfl⟩⟩
      | i + 10,Z=>simp at Z
    ·have hjl':¬ (j:Int) < es.length:=by omega
     rw [xa (by omega)] at jN
     go_wp2_with fail
     dsimp only [H,I,J,M,yj,yk,yv,yw,yx,yp,yq,E]
     go_roundw
     case rel=>exact ⟨k + 1,by omega,by go_num,by rw [U vF]; exact U jN⟩
     case measure=>simp [intOf]; omega
  ·have uy:¬ (k:Int) < gl.length:=by omega
   rw [xa (by omega)] at ux
   go_wp2_with fail
   refine U xv _ _ ?_
   clear xv xL uy
   generalize totG { tot0 with gr:=gl.length } gl = T at HTM ux
   have jN:=Y (U ux)
   clear ux
   have k0:wr.cell? (yq w 0) = some (H next):=(U jN).k 0 _ rfl
   have k1:wr.cell? (yq w 1) = some (.slice aq l.length cq):=(U jN).k 1 _ rfl
   have jR:=Y (l04Live_any next (.slice aq l.length cq) l wr (zn (U HR) (U jN).b tg))
   generalize livS l = LV at jR HTM
   refine eI fun hR xv=>?_
   go_wp2_with fail
   refine (U jR).mono ?_
   rintro r w4 ⟨rfl,xD⟩
   clear k0 k1
   have HJ4:=Y (jt_below (U jN) xD)
   clear xD
   obtain ⟨y6,z6,q6⟩:=ze (U HJ4).t (j:=6) (by omega)
   obtain ⟨y7,z7,q7⟩:=ze (U HJ4).t (j:=7) (by omega)
   go_wp2_with fail
   refine U xv _ _ ?_
   clear xv z6 q6 z7 q7
   have kC:=Y (jt_set (U HJ4) l.length LV)
   generalize (w4.setCell (J (w.heap.size + 1 + 1) 6) (H l.length)).setCell (J (w.heap.size + 1 + 1) 7) (H LV) = V at kC ⊢
   obtain ⟨uf,ue,uh,ui,uj,ug,uu,ut⟩:=T
   simp only at HTM kC
   have c0:V.cell? (J (w.heap.size + 1 + 1) 0) = some (H uf):=(U kC).r 0 _ rfl
   obtain ⟨y0,z0,q0⟩:=ze (U kC).o (j:=0) (by omega)
   have c1:V.cell? (J (w.heap.size + 1 + 1) 1) = some (H ue):=(U kC).r 1 _ rfl
   obtain ⟨y1,z1,q1⟩:=ze (U kC).o (j:=1) (by omega)
   have c2:V.cell? (J (w.heap.size + 1 + 1) 2) = some (H uh):=(U kC).r 2 _ rfl
   obtain ⟨y2,z2,q2⟩:=ze (U kC).o (j:=2) (by omega)
   have c3:V.cell? (J (w.heap.size + 1 + 1) 3) = some (H ui):=(U kC).r 3 _ rfl
   obtain ⟨y3,z3,q3⟩:=ze (U kC).o (j:=3) (by omega)
   have c4:V.cell? (J (w.heap.size + 1 + 1) 4) = some (H uj):=(U kC).r 4 _ rfl
   obtain ⟨y4,z4,q4⟩:=ze (U kC).o (j:=4) (by omega)
   have c5:V.cell? (J (w.heap.size + 1 + 1) 5) = some (H ug):=(U kC).r 5 _ rfl
   obtain ⟨y5,z5,q5⟩:=ze (U kC).o (j:=5) (by omega)
   have c6:V.cell? (J (w.heap.size + 1 + 1) 6) = some (H l.length):=(U kC).r 6 _ rfl
   obtain ⟨y6,z6,q6⟩:=ze (U kC).o (j:=6) (by omega)
   have c7:V.cell? (J (w.heap.size + 1 + 1) 7) = some (H LV):=(U kC).r 7 _ rfl
   obtain ⟨y7,z7,q7⟩:=ze (U kC).o (j:=7) (by omega)
   have xR:=Y (yY V (w.heap.size + 1) 0 [H uf,H ue,H uh,H ui,H uj,H ug,H l.length,H LV] (fun j R=>(U kC).o j R))
   have qf:=Y (zo (w.heap.size + 1) (by omega) [H uf,H ue,H uh,H ui,H uj,H ug,H l.length,H LV] 0 V (U kC).b)
   go_wp2_with fail
   change bodyPost _ _ _ _ _ (V.setCells (w.heap.size + 1) 0 [H uf,H ue,H uh,H ui,H uj,H ug,H l.length,H LV])
   generalize V.setCells (w.heap.size + 1) 0 [H uf,H ue,H uh,H ui,H uj,H ug,H l.length,H LV] = WE at xR qf ⊢
   obtain ⟨d0,d1,d2,d3,d4,d5,d6,d7⟩:=yE (U xR)
   refine bodyPost_ret (by simp [results,Tryz.results71,go_sem,d0,d1,d2,d3,d4,d5,d6,d7]; try rfl) rfl ?_
   exact ⟨by rw [U HTM],U qf⟩
theorem run_fold:∀ (cs:List Cm) (s:RunSt),s.t = s.g.foldl wgT tot0→(cs.foldl aX s).t = (cs.foldl aX s).g.foldl wgT tot0
 | [],s,h=>h
 | c :: cs,s,h=>by
  rw [List.foldl_cons]
  refine run_fold cs _ ?_
  show wgT s.t (stE s.n s.l c) = (s.g ++ [stE s.n s.l c]).foldl wgT tot0
  rw [List.foldl_append,← h]; rfl
structure Al (t u:Tot):Prop where
 ac:t.ac = u.ac
 rf:t.rf = u.rf
 tr:t.tr = u.tr
 vo:t.vo = u.vo
 no:t.no = u.no
theorem al_cnt {t u:Tot} (e:Ev) (h:Al t u):Al (cntE t e) (cntM u e):=by
 obtain ⟨Q,N,h3,h4,h5⟩:=h
 unfold cntE cntM
 split
 ·exact ⟨by simp only [Q],N,h3,h4,h5⟩
 ·split
  ·exact ⟨Q,by simp only [N],h3,h4,h5⟩
  ·split
   ·exact ⟨Q,N,by simp only [h3],by simp only [h4],by simp only [h5]⟩
   ·split
    ·exact ⟨Q,N,h3,h4,h5⟩
    ·exact ⟨Q,N,h3,h4,h5⟩
theorem al_fold:∀ (es:List Ev) {t u:Tot},Al t u→Al (es.foldl cntE t) (es.foldl cntM u)
 | [],_,_,h=>h
 | e :: es,_,_,h=>al_fold es (al_cnt e h)
theorem cntE_rest (t:Tot) (e:Ev):(cntE t e).gr = t.gr∧(cntE t e).li = t.li∧(cntE t e).le = t.le:=by
 unfold cntE
 split
 ·exact ⟨rfl,rfl,rfl⟩
 ·split
  ·exact ⟨rfl,rfl,rfl⟩
  ·split <;> exact ⟨rfl,rfl,rfl⟩
theorem cntE_fold:∀ (es:List Ev) (t:Tot),(es.foldl cntE t).gr = t.gr∧(es.foldl cntE t).li = t.li∧(es.foldl cntE t).le = t.le
 | [],_=>⟨rfl,rfl,rfl⟩
 | e :: es,t=>by
  have Q:=cntE_fold es (cntE t e)
  have N:=cntE_rest t e
  exact ⟨Q.1.trans N.1,Q.2.1.trans N.2.1,Q.2.2.trans N.2.2⟩
theorem cntM_gr:∀ (es:List Ev) (t:Tot),(es.foldl cntM t).gr = t.gr
 | [],_=>rfl
 | e :: es,t=>by
  refine (cntM_gr es (cntM t e)).trans ?_
  unfold cntM
  split
  ·rfl
  ·split
   ·rfl
   ·split
    ·rfl
    ·split <;> rfl
theorem totG_gr:∀ (gl:List (List Ev)) (t:Tot),(totG t gl).gr = t.gr
 | [],_=>rfl
 | es :: gl,t=>(totG_gr gl (es.foldl cntM t)).trans (cntM_gr es t)
theorem wrap_small {x:Int} (h0:0 ≤ x) (Q:x ≤ 1000000):wrap64 x = x:=by unfold wrap64; omega
theorem wg_al:∀ (gl:List (List Ev)) {t u:Tot},Al t u→0 ≤ t.gr→t.gr + gl.length ≤ 1000000→Al (gl.foldl wgT t) (totG u gl)∧(gl.foldl wgT t).gr = t.gr + gl.length∧(gl.foldl wgT t).li = t.li∧(gl.foldl wgT t).le = t.le
 | [],t,u,h,_,_=>⟨h,by simp,rfl,rfl⟩
 | es :: gl,t,u,h,h0,Q=>by
  rw [List.length_cons] at Q
  have hf:=cntE_fold es { t with gr:=wrap64 (t.gr + 1) }
  have hw:wrap64 (t.gr + 1) = t.gr + 1:=wrap_small (by omega) (by omega)
  have hg:(wgT t es).gr = t.gr + 1:=hf.1.trans hw
  have ha:Al (wgT t es) (es.foldl cntM u):=al_fold es ⟨h.ac,h.rf,h.tr,h.vo,h.no⟩
  have ih:=wg_al gl ha (by omega) (by omega)
  refine ⟨ih.1,?_,ih.2.2.1.trans hf.2.1,ih.2.2.2.trans hf.2.2⟩
  have:=ih.2.1
  rw [List.foldl_cons,this,List.length_cons]; omega
theorem wb_fold:∀ (l:List Od) (t:Tot) (n:Int),0 ≤ t.li→t.li + l.length ≤ 1000000→l.foldl cntO { t with le:=n } = { t with li:=t.li + l.length,le:=l.foldl (fun n o=>wrap64 (n + o.left)) n }
 | [],t,n,_,_=>by simp
 | o :: l,t,n,h0,Q=>by
  rw [List.length_cons] at Q
  have hw:wrap64 (t.li + 1) = t.li + 1:=wrap_small (by omega) (by omega)
  rw [List.foldl_cons,List.foldl_cons]
  have:=wb_fold l { t with li:=t.li + 1 } (wrap64 (n + o.left)) (by show 0 ≤ t.li + 1; omega) (by show t.li + 1 + _ ≤ _; omega)
  simp only at this
  unfold cntO
  simp only [hw]
  refine this.trans ?_
  congr 1
  rw [List.length_cons]; omega
theorem tot_eq (cs:List Cm) (h:cs.length ≤ 200):wbT (runS cs).t (runS cs).l = totM (runS cs).g (runS cs).l:=by
 have hI:=run_inv cs h
 have hl:=hI.1.good.len
 have hf:(runS cs).t = (runS cs).g.foldl wgT tot0:=run_fold cs _ rfl
 generalize runS cs = s at hI hl hf ⊢
 obtain ⟨ha,hg,hli,jI⟩:=wg_al s.g (t:=tot0) (u:={ tot0 with gr:=s.g.length }) ⟨rfl,rfl,rfl,rfl,rfl⟩ (by show (0:Int) ≤ 0; omega) (by show (0:Int) + _ ≤ _; omega)
 have uc:=totG_gr s.g { tot0 with gr:=s.g.length }
 rw [← hf] at ha hg hli jI
 unfold totM wbT
 generalize totG { tot0 with gr:=s.g.length } s.g = za at ha uc ⊢
 have hw:=wb_fold s.l s.t 0 (by rw [hli]; show (0:Int) ≤ 0; omega) (by rw [hli]; show (0:Int) + _ ≤ _; omega)
 have ht:{ s.t with le:=0 } = s.t:=by rw [show (0:Int) = s.t.le from jI.symm]
 rw [ht] at hw
 rw [hw]
 obtain ⟨u1,u2,u3,u4,u5,u6,u7,u8⟩:=za
 generalize s.t = T at *
 obtain ⟨t1,t2,t3,t4,t5,t6,t7,t8⟩:=T
 obtain ⟨a1,a2,a3,a4,a5⟩:=ha
 simp only [tot0] at *
 simp only [Tot.mk.injEq]
 exact ⟨by omega,a1,a2,a3,a4,a5,by omega,rfl⟩
end Go.Proofs.YtbakanofkghmiaaGreat
