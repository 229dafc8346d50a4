/-
  A group's events counted, by the program: proved by walking the function.
-/
import Derived.Test.YtbakanofkghmiaaGreatQj23
set_option linter.unusedVariables false
set_option maxHeartbeats 6400000
set_option maxRecDepth 100000
namespace Go.Proofs.YtbakanofkghmiaaGreat
open Go.RowKit
structure Tot where
 gr:Int
 ac:Int
 rf:Int
 tr:Int
 vo:Int
 no:Int
 li:Int
 le:Int
def Tot.vs (t:Tot):List Value:=[H t.gr,H t.ac,H t.rf,H t.tr,H t.vo,H t.no,H t.li,H t.le]
def cntE (t:Tot) (e:Ev):Tot :=
 if e.kind = 1 then { t with ac:=wrap64 (t.ac + 1) } else if e.kind = 2 then { t with rf:=wrap64 (t.rf + 1) }
 else if e.kind = 3 then { t with tr:=wrap64 (t.tr + 1),vo:=wrap64 (t.vo + e.qty),no:=wrap64 (t.no + wrap64 (e.qty * e.price)) } else t
def wgT (t:Tot) (ts:List Ev):Tot:=ts.foldl cntE { t with gr:=wrap64 (t.gr + 1) }
theorem wg_step (t:Tot) (ts:List Ev) {k:Nat} {e:Ev} (h:ts[k]? = some e):wgT t (ts.take (k + 1)) = cntE (wgT t (ts.take k)) e:=by
 unfold wgT
 rw [List.take_add_one,h,List.foldl_append]; rfl
theorem cA {W:World} {b j:Nat} {cs:List Value} {u:Value} (h:W.rangeAt b 0 cs) (R:j < cs.length):(W.setCell (J b j) u).rangeAt b 0 (cs.set j u):=by
 intro i v hi
 rw [Nat.zero_add]
 by_cases pI:j = i
 ·subst pI
  rw [List.getElem?_set_self R] at hi
  cases hi
  have:=h j _ (yI R)
  rw [Nat.zero_add] at this
  exact yN _ _ _ this
 ·rw [yX pI] at hi
  have:=h i v hi
  rw [Nat.zero_add] at this
  exact (yM _ _ _ _ (zQ pI)).trans this
theorem keep8 {w W:World} {S:Nat} {cs:List Value} (h:W.rangeAt S 0 cs∧W.there S 0 8∧W.there (S + 1) 0 8∧Below S w W∧S + 1 + 1 ≤ W.heap.size) (j:Nat) (R:j < cs.length) (u:Value):(W.setCell (J S j) u).rangeAt S 0 (cs.set j u)∧(W.setCell (J S j) u).there S 0 8∧(W.setCell (J S j) u).there (S + 1) 0 8∧Below S w (W.setCell (J S j) u)∧S + 1 + 1 ≤ (W.setCell (J S j) u).heap.size :=
 ⟨cA h.1 R,zE h.2.1,zE h.2.2.1,h.2.2.2.1.setCell (p:=(J S j)) tg _,by simp only [World.setCell,Array.size_modify]; exact h.2.2.2.2⟩
theorem cw {W:World} {b o:Nat} {e:Ev} (h:W.rangeAt b o e.vs):W.cell? (J b o) = some (H e.kind)∧W.cell? (J b (o + 1)) = some (H e.cmd.k)∧W.cell? (J b (o + 2)) = some (H e.cmd.s)∧W.cell? (J b (o + 3)) = some (H e.cmd.t)∧W.cell? (J b (o + 4)) = some (H e.cmd.l)∧W.cell? (J b (o + 5)) = some (H e.cmd.q)∧W.cell? (J b (o + 6)) = some (H e.cmd.i)∧W.cell? (J b (o + 7)) = some (yj e.cmd.p)∧W.cell? (J b (o + 8)) = some (yk e.cmd.g)∧W.cell? (J b (o + 9)) = some (H e.id)∧W.cell? (J b (o + 10)) = some (H e.other)∧W.cell? (J b (o + 11)) = some (H e.qty)∧W.cell? (J b (o + 12)) = some (H e.price)∧W.cell? (J b (o + 13)) = some (H e.reason):=⟨h 0 _ rfl,h 1 _ rfl,h 2 _ rfl,h 3 _ rfl,h 4 _ rfl,h 5 _ rfl,h 6 _ rfl,h 7 _ rfl,h 8 _ rfl,h 9 _ rfl,h 10 _ rfl,h 11 _ rfl,h 12 _ rfl,h 13 _ rfl⟩
theorem withGroup_any (t:Tot) (v:Value) (ts:List Ev) (w:World) (hr:RdR Ev.vs 14 w v ts) :
  Calls Tryz.prog 106 #[.agg #[H t.gr,H t.ac,H t.rf,H t.tr,H t.vo,H t.no,H t.li,H t.le],v] w fun r w'=>r = ym (.agg #[H (wgT t ts).gr,H (wgT t ts).ac,H (wgT t ts).rf,H (wgT t ts).tr,H (wgT t ts).vo,H (wgT t ts).no,H (wgT t ts).li,H (wgT t ts).le])∧yn w w':=by
 obtain ⟨a,A,rfl,xG,hc⟩:=hr
 have xr:∀ (k:Nat) (c:Ev),ts[k]? = some c→∃ b off,a = some (J b off)∧b < w.heap.size∧w.rangeAt b (off + k * 14) c.vs:=by
  intro k c hk
  obtain ⟨b,off,Q,N,h3⟩:=hc (by intro h; rw [h] at hk; simp at hk)
  exact ⟨b,off,Q,N,h3 k c hk⟩
 have HC:=Y xr
 clear xr hc
 have hsf:=sfl
 have xC:=zh w (E #[H t.gr,H t.ac,H t.rf,H t.tr,H t.vo,H t.no,H t.li,H t.le] 30)
 have ua:((w.alloc (E #[H t.gr,H t.ac,H t.rf,H t.tr,H t.vo,H t.no,H t.li,H t.le] 30)).alloc (E #[H 0,H 0,H 0,H 0,H 0,H 0,H 0,H 0] 30)).heap.size = w.heap.size + 1 + 1:=by rw [zh,xC]
 have r1:=zi w [H t.gr,H t.ac,H t.rf,H t.tr,H t.vo,H t.no,H t.li,H t.le] 30
 have t1:=zw w [H t.gr,H t.ac,H t.rf,H t.tr,H t.vo,H t.no,H t.li,H t.le] 30
 have t2:=zw (w.alloc (E #[H t.gr,H t.ac,H t.rf,H t.tr,H t.vo,H t.no,H t.li,H t.le] 30)) [H 0,H 0,H 0,H 0,H 0,H 0,H 0,H 0] 30
 rw [xC] at t2
 have b1:=eE w (E #[H t.gr,H t.ac,H t.rf,H t.tr,H t.vo,H t.no,H t.li,H t.le] 30)
 have b2:Below (w.heap.size + 1) (w.alloc (E #[H t.gr,H t.ac,H t.rf,H t.tr,H t.vo,H t.no,H t.li,H t.le] 30)) ((w.alloc (E #[H t.gr,H t.ac,H t.rf,H t.tr,H t.vo,H t.no,H t.li,H t.le] 30)).alloc (E #[H 0,H 0,H 0,H 0,H 0,H 0,H 0,H 0] 30)):=(Below.refl _ _).alloc (by omega) _
 have HX:Hid (_∧_∧_):=⟨zb r1 b2 (by omega),zg t1 b2 (by omega),t2⟩
 have HB:=Y (b1.trans (b2.mono (by omega)))
 have HS:=Y ua
 clear xC ua r1 t1 t2 b1 b2
 go_enter Tryz.func106,Tryz.ntmps106
 refine eI fun hR xv=>?_
 go_wp2_with fail
 refine U xv _ _ ?_
 clear xv
 generalize ((w.alloc (E #[H t.gr,H t.ac,H t.rf,H t.tr,H t.vo,H t.no,H t.li,H t.le] 30)).alloc (E #[H 0,H 0,H 0,H 0,H 0,H 0,H 0,H 0] 30)) = hb at HX HB HS ⊢
 have HX:Hid (hb.rangeAt w.heap.size 0 [H t.gr,H t.ac,H t.rf,H t.tr,H t.vo,H t.no,H t.li,H t.le]∧hb.there w.heap.size 0 8∧hb.there (w.heap.size + 1) 0 8):=U HX
 have c0:hb.cell? (yq w 0) = some (H t.gr):=(U HX).1 0 _ rfl
 obtain ⟨y0,z0,q0⟩:=ze (U HX).2.1 (j:=0) (by omega)
 clear z0 y0
 refine eI fun hR xv=>?_
 go_wp2_with fail
 refine U xv _ _ ?_
 clear xv
 have uK:Hid (World.rangeAt (hb.setCell (yq w 0) (H (wrap64 (t.gr + 1)))) w.heap.size 0 (wgT t (ts.take 0)).vs∧World.there (hb.setCell (yq w 0) (H (wrap64 (t.gr + 1)))) w.heap.size 0 8∧World.there (hb.setCell (yq w 0) (H (wrap64 (t.gr + 1)))) (w.heap.size + 1) 0 8∧yn w (hb.setCell (yq w 0) (H (wrap64 (t.gr + 1))))∧(hb.setCell (yq w 0) (H (wrap64 (t.gr + 1)))).heap.size = w.heap.size + 1 + 1):=by
  refine ⟨?_,zE (U HX).2.1,zE (U HX).2.2,(U HB).setCell (p:=(yq w 0)) tg _,by simp [World.setCell]; exact U HS⟩
  intro j u R
  rw [Nat.zero_add]
  match j,R with
  | 0,R=>cases R; exact yN _ _ _ c0
  | 1,R=>cases R; exact (yM _ _ _ _ (zQ (by omega))).trans ((U HX).1 1 _ rfl)
  | 2,R=>cases R; exact (yM _ _ _ _ (zQ (by omega))).trans ((U HX).1 2 _ rfl)
  | 3,R=>cases R; exact (yM _ _ _ _ (zQ (by omega))).trans ((U HX).1 3 _ rfl)
  | 4,R=>cases R; exact (yM _ _ _ _ (zQ (by omega))).trans ((U HX).1 4 _ rfl)
  | 5,R=>cases R; exact (yM _ _ _ _ (zQ (by omega))).trans ((U HX).1 5 _ rfl)
  | 6,R=>cases R; exact (yM _ _ _ _ (zQ (by omega))).trans ((U HX).1 6 _ rfl)
  | 7,R=>cases R; exact (yM _ _ _ _ (zQ (by omega))).trans ((U HX).1 7 _ rfl)
  | j + 8,R=>simp [Tot.vs] at R
 have HSU:Hid (_∧_∧_∧_∧_):=⟨(U uK).1,(U uK).2.1,(U uK).2.2.1,(U uK).2.2.2.1,Nat.le_of_eq (U uK).2.2.2.2.symm⟩
 generalize (hb.setCell (yq w 0) (H (wrap64 (t.gr + 1)))) = X1 at uK HSU ⊢
 clear c0 q0 HX HB HS uK
 go_wp2_with fail
 go_loopw [13] (fun iv wr=>∃ (k:Nat),k ≤ ts.length∧iv = H k∧Hid (wr.rangeAt w.heap.size 0 (wgT t (ts.take k)).vs∧wr.there w.heap.size 0 8∧wr.there (w.heap.size + 1) 0 8∧yn w wr∧w.heap.size + 1 + 1 ≤ wr.heap.size)) (fun iv _=>ts.length - (intOf iv).toNat)
 case atStart=>exact ⟨0,Nat.zero_le _,rfl,U HSU⟩
 case round =>
  obtain ⟨k,hk,rfl,ux⟩:=hrel
  by_cases xL:k < ts.length
  ·obtain ⟨e,jh⟩:∃ e,ts[k]? = some e:=⟨_,yI xL⟩
   obtain ⟨b,off,rfl,X,xp⟩:=U HC k e jh
   have vF:=Y (wg_step t ts jh)
   have uy:(k:Int) < ts.length:=by omega
   have hse:=(U ux).2.2.2.2
   obtain ⟨g0,g1,g2,g3,g4,g5,g6,g7,g8,g9,qx,vw,xZ,jV⟩:=cw (zb xp (U ux).2.2.2.1 X)
   have vp:=eE wr (E (yv e.kind e.cmd.k e.cmd.s e.cmd.t e.cmd.l e.cmd.q e.cmd.i e.cmd.p e.cmd.g e.id e.other e.qty e.price e.reason).toArray 46)
   have HY:Hid (World.rangeAt (wr.alloc (E (yv e.kind e.cmd.k e.cmd.s e.cmd.t e.cmd.l e.cmd.q e.cmd.i e.cmd.p e.cmd.g e.id e.other e.qty e.price e.reason).toArray 46)) w.heap.size 0 (wgT t (ts.take k)).vs∧World.there (wr.alloc (E (yv e.kind e.cmd.k e.cmd.s e.cmd.t e.cmd.l e.cmd.q e.cmd.i e.cmd.p e.cmd.g e.id e.other e.qty e.price e.reason).toArray 46)) w.heap.size 0 8∧World.there (wr.alloc (E (yv e.kind e.cmd.k e.cmd.s e.cmd.t e.cmd.l e.cmd.q e.cmd.i e.cmd.p e.cmd.g e.id e.other e.qty e.price e.reason).toArray 46)) (w.heap.size + 1) 0 8∧yn w (wr.alloc (E (yv e.kind e.cmd.k e.cmd.s e.cmd.t e.cmd.l e.cmd.q e.cmd.i e.cmd.p e.cmd.g e.id e.other e.qty e.price e.reason).toArray 46))∧w.heap.size + 1 + 1 ≤ (wr.alloc (E (yv e.kind e.cmd.k e.cmd.s e.cmd.t e.cmd.l e.cmd.q e.cmd.i e.cmd.p e.cmd.g e.id e.other e.qty e.price e.reason).toArray 46)).heap.size):=⟨zb (U ux).1 vp (by omega),zg (U ux).2.1 vp (by omega),zg (U ux).2.2.1 vp (by omega),(U ux).2.2.2.1.trans (vp.mono (by omega)),yO hse vp.size⟩
   generalize wgT t (ts.take k) = T at vF HY
   obtain ⟨uf,ue,uh,ui,uj,ug,uu,ut⟩:=T
   have xB:w.heap.size ≠ wr.heap.size:=by omega
   have hne':wr.heap.size ≠ w.heap.size:=by omega
   have d0:(wr.alloc (E (yv e.kind e.cmd.k e.cmd.s e.cmd.t e.cmd.l e.cmd.q e.cmd.i e.cmd.p e.cmd.g e.id e.other e.qty e.price e.reason).toArray 46)).cell? (yq w 0) = some (H uf):=(U HY).1 0 _ rfl
   have p0:(wr.alloc (E (yv e.kind e.cmd.k e.cmd.s e.cmd.t e.cmd.l e.cmd.q e.cmd.i e.cmd.p e.cmd.g e.id e.other e.qty e.price e.reason).toArray 46)).frozen? (yq w 0) = false:=by have:=((U HY).2.1 0 (by omega)).2; rwa [Nat.zero_add] at this
   have d1:(wr.alloc (E (yv e.kind e.cmd.k e.cmd.s e.cmd.t e.cmd.l e.cmd.q e.cmd.i e.cmd.p e.cmd.g e.id e.other e.qty e.price e.reason).toArray 46)).cell? (yq w 1) = some (H ue):=(U HY).1 1 _ rfl
   have p1:(wr.alloc (E (yv e.kind e.cmd.k e.cmd.s e.cmd.t e.cmd.l e.cmd.q e.cmd.i e.cmd.p e.cmd.g e.id e.other e.qty e.price e.reason).toArray 46)).frozen? (yq w 1) = false:=by have:=((U HY).2.1 1 (by omega)).2; rwa [Nat.zero_add] at this
   have d2:(wr.alloc (E (yv e.kind e.cmd.k e.cmd.s e.cmd.t e.cmd.l e.cmd.q e.cmd.i e.cmd.p e.cmd.g e.id e.other e.qty e.price e.reason).toArray 46)).cell? (yq w 2) = some (H uh):=(U HY).1 2 _ rfl
   have p2:(wr.alloc (E (yv e.kind e.cmd.k e.cmd.s e.cmd.t e.cmd.l e.cmd.q e.cmd.i e.cmd.p e.cmd.g e.id e.other e.qty e.price e.reason).toArray 46)).frozen? (yq w 2) = false:=by have:=((U HY).2.1 2 (by omega)).2; rwa [Nat.zero_add] at this
   have d3:(wr.alloc (E (yv e.kind e.cmd.k e.cmd.s e.cmd.t e.cmd.l e.cmd.q e.cmd.i e.cmd.p e.cmd.g e.id e.other e.qty e.price e.reason).toArray 46)).cell? (yq w 3) = some (H ui):=(U HY).1 3 _ rfl
   have p3:(wr.alloc (E (yv e.kind e.cmd.k e.cmd.s e.cmd.t e.cmd.l e.cmd.q e.cmd.i e.cmd.p e.cmd.g e.id e.other e.qty e.price e.reason).toArray 46)).frozen? (yq w 3) = false:=by have:=((U HY).2.1 3 (by omega)).2; rwa [Nat.zero_add] at this
   have d4:(wr.alloc (E (yv e.kind e.cmd.k e.cmd.s e.cmd.t e.cmd.l e.cmd.q e.cmd.i e.cmd.p e.cmd.g e.id e.other e.qty e.price e.reason).toArray 46)).cell? (yq w 4) = some (H uj):=(U HY).1 4 _ rfl
   have p4:(wr.alloc (E (yv e.kind e.cmd.k e.cmd.s e.cmd.t e.cmd.l e.cmd.q e.cmd.i e.cmd.p e.cmd.g e.id e.other e.qty e.price e.reason).toArray 46)).frozen? (yq w 4) = false:=by have:=((U HY).2.1 4 (by omega)).2; rwa [Nat.zero_add] at this
   have d5:(wr.alloc (E (yv e.kind e.cmd.k e.cmd.s e.cmd.t e.cmd.l e.cmd.q e.cmd.i e.cmd.p e.cmd.g e.id e.other e.qty e.price e.reason).toArray 46)).cell? (yq w 5) = some (H ug):=(U HY).1 5 _ rfl
   have p5:(wr.alloc (E (yv e.kind e.cmd.k e.cmd.s e.cmd.t e.cmd.l e.cmd.q e.cmd.i e.cmd.p e.cmd.g e.id e.other e.qty e.price e.reason).toArray 46)).frozen? (yq w 5) = false:=by have:=((U HY).2.1 5 (by omega)).2; rwa [Nat.zero_add] at this
   have d6:(wr.alloc (E (yv e.kind e.cmd.k e.cmd.s e.cmd.t e.cmd.l e.cmd.q e.cmd.i e.cmd.p e.cmd.g e.id e.other e.qty e.price e.reason).toArray 46)).cell? (yq w 6) = some (H uu):=(U HY).1 6 _ rfl
   have p6:(wr.alloc (E (yv e.kind e.cmd.k e.cmd.s e.cmd.t e.cmd.l e.cmd.q e.cmd.i e.cmd.p e.cmd.g e.id e.other e.qty e.price e.reason).toArray 46)).frozen? (yq w 6) = false:=by have:=((U HY).2.1 6 (by omega)).2; rwa [Nat.zero_add] at this
   have d7:(wr.alloc (E (yv e.kind e.cmd.k e.cmd.s e.cmd.t e.cmd.l e.cmd.q e.cmd.i e.cmd.p e.cmd.g e.id e.other e.qty e.price e.reason).toArray 46)).cell? (yq w 7) = some (H ut):=(U HY).1 7 _ rfl
   have p7:(wr.alloc (E (yv e.kind e.cmd.k e.cmd.s e.cmd.t e.cmd.l e.cmd.q e.cmd.i e.cmd.p e.cmd.g e.id e.other e.qty e.price e.reason).toArray 46)).frozen? (yq w 7) = false:=by have:=((U HY).2.1 7 (by omega)).2; rwa [Nat.zero_add] at this
   clear jh xp X vp
   by_cases Q:e.kind = 1
   ·have b1:(e.kind == 1) = true:=by simpa using Q
    have HN:Hid (wgT t (ts.take (k + 1)) = ⟨uf,wrap64 (ue + 1),uh,ui,uj,ug,uu,ut⟩):=(U vF).trans (if_pos Q)
    clear Q
    go_wp2_with fail
    go_roundw
    case rel=>exact ⟨k + 1,by omega,by go_num,by rw [U HN]; exact keep8 (U HY) 1 (by simp [Tot.vs]) _⟩
    case measure=>simp [intOf]; omega
   have b1:(e.kind == 1) = false:=by rw [xe]; exact Q
   by_cases N:e.kind = 2
   ·have b2:(e.kind == 2) = true:=by simpa using N
    have HN:Hid (wgT t (ts.take (k + 1)) = ⟨uf,ue,wrap64 (uh + 1),ui,uj,ug,uu,ut⟩):=(U vF).trans ((if_neg Q).trans (if_pos N))
    clear Q N
    go_wp2_with fail
    go_roundw
    case rel=>exact ⟨k + 1,by omega,by go_num,by rw [U HN]; exact keep8 (U HY) 2 (by simp [Tot.vs]) _⟩
    case measure=>simp [intOf]; omega
   have b2:(e.kind == 2) = false:=by rw [xe]; exact N
   by_cases h3:e.kind = 3
   ·have b3:(e.kind == 3) = true:=by simpa using h3
    have HN:Hid (wgT t (ts.take (k + 1)) = ⟨uf,ue,uh,wrap64 (ui + 1),wrap64 (uj + e.qty),wrap64 (ug + wrap64 (e.qty * e.price)),uu,ut⟩):=(U vF).trans ((if_neg Q).trans ((if_neg N).trans (if_pos h3)))
    clear Q N h3
    go_wp2_with fail
    go_roundw
    case rel=>exact ⟨k + 1,by omega,by go_num,by rw [U HN]; exact keep8 (keep8 (keep8 (U HY) 3 (by simp [Tot.vs]) _) 4 (by simp [Tot.vs]) _) 5 (by simp [Tot.vs]) _⟩
    case measure=>simp [intOf]; omega
   ·have b3:(e.kind == 3) = false:=by rw [xe]; exact h3
    have HN:Hid (wgT t (ts.take (k + 1)) = ⟨uf,ue,uh,ui,uj,ug,uu,ut⟩):=(U vF).trans ((if_neg Q).trans ((if_neg N).trans (if_neg h3)))
    clear Q N h3
    go_wp2_with fail
    go_roundw
    case rel=>exact ⟨k + 1,by omega,by go_num,by rw [U HN]; exact U HY⟩
    case measure=>simp [intOf]; omega
  ·have uy:¬ (k:Int) < ts.length:=by omega
   rw [xa (by omega)] at ux
   generalize hT:wgT t ts = T at ux
   have om:=Y hT
   have HY:=Y (U ux)
   clear hT
   obtain ⟨uf,ue,uh,ui,uj,ug,uu,ut⟩:=T
   have c0:wr.cell? (yq w 0) = some (H uf):=(U HY).1 0 _ rfl
   obtain ⟨y0,z0,q0⟩:=ze (U HY).2.2.1 (j:=0) (by omega)
   have c1:wr.cell? (yq w 1) = some (H ue):=(U HY).1 1 _ rfl
   obtain ⟨y1,z1,q1⟩:=ze (U HY).2.2.1 (j:=1) (by omega)
   have c2:wr.cell? (yq w 2) = some (H uh):=(U HY).1 2 _ rfl
   obtain ⟨y2,z2,q2⟩:=ze (U HY).2.2.1 (j:=2) (by omega)
   have c3:wr.cell? (yq w 3) = some (H ui):=(U HY).1 3 _ rfl
   obtain ⟨y3,z3,q3⟩:=ze (U HY).2.2.1 (j:=3) (by omega)
   have c4:wr.cell? (yq w 4) = some (H uj):=(U HY).1 4 _ rfl
   obtain ⟨y4,z4,q4⟩:=ze (U HY).2.2.1 (j:=4) (by omega)
   have c5:wr.cell? (yq w 5) = some (H ug):=(U HY).1 5 _ rfl
   obtain ⟨y5,z5,q5⟩:=ze (U HY).2.2.1 (j:=5) (by omega)
   have c6:wr.cell? (yq w 6) = some (H uu):=(U HY).1 6 _ rfl
   obtain ⟨y6,z6,q6⟩:=ze (U HY).2.2.1 (j:=6) (by omega)
   have c7:wr.cell? (yq w 7) = some (H ut):=(U HY).1 7 _ rfl
   obtain ⟨y7,z7,q7⟩:=ze (U HY).2.2.1 (j:=7) (by omega)
   have xR:=Y (yY wr (w.heap.size + 1) 0 [H uf,H ue,H uh,H ui,H uj,H ug,H uu,H ut] (fun j R=>(U HY).2.2.1 j R))
   have qf:=Y (zo (w.heap.size + 1) (by omega) [H uf,H ue,H uh,H ui,H uj,H ug,H uu,H ut] 0 wr (U HY).2.2.2.1)
   clear ux
   go_wp2_with fail
   change bodyPost _ _ _ _ _ (wr.setCells (w.heap.size + 1) 0 [H uf,H ue,H uh,H ui,H uj,H ug,H uu,H ut])
   generalize wr.setCells (w.heap.size + 1) 0 [H uf,H ue,H uh,H ui,H uj,H ug,H uu,H ut] = WE at xR qf ⊢
   obtain ⟨d0,d1,d2,d3,d4,d5,d6,d7⟩:=yE (U xR)
   try simp only [Exit.inBlock,Exit.then]
   refine bodyPost_ret (by simp [results,Tryz.results106,go_sem,d0,d1,d2,d3,d4,d5,d6,d7]; try rfl) rfl ?_
   exact ⟨by rw [U om],U qf⟩
abbrev GRow (W:World) (B:Nat) (v:Value) (gs:List Value):Prop:=W.ownsRow B 38 1 v gs.length gs
theorem infoEvS:(Tryz.prog.info? 38).map (fun i=>(i.zero,i.size,i.bytes)) = some (some (.slice none 0 0),1,24):=by kernel_rfl
theorem bm {W:World} {b n j:Nat} (h:W.there b 3 n) (R:j < n):∃ u,W.cell? (J b (3 + j)) = some u∧W.frozen? (J b (3 + j)) = false:=by
 obtain ⟨Q,N⟩:=h j R
 obtain ⟨u,hu⟩:=Option.isSome_iff_exists.1 Q
 exact ⟨u,hu,N⟩
theorem ed (b:Nat):∀ (vs:List Value) (o:Nat) (W:World) (a:Addr),(W.setCells b o vs).frozen? a = W.frozen? a
 | [],_,_,_=>rfl
 | v :: r,o,W,a=>by rw [World.setCells,ed b r (o + 1),World.frozen?_setCell]
structure RC (C:Nat→Value→Prop) (mb B:Nat) (gv vo:Value) (gs:List Value) (base:World) (x:List Bool) (f:Nat→Value) (W:World):Prop where
 c:∀ j,x[j]? = some true→C j (f j)
 b:x[11]? = some false→Below base.heap.size base W
 m10:x[10]? = some true→x[11]? = some false→∃ s,f 10 = .slice (some ⟨s,0,none⟩) 1 1∧W.cell? ⟨s,0,none⟩ = some vo
 m11:x[11]? = some true→x[15]? = some false→GRow W B (f 11) (gs ++ [vo])∧base.grownBy W gv.ownBlock
 m15:x[15]? = some true→∃ V,GRow V B (f 11) (gs ++ [vo])∧base.grownBy V gv.ownBlock∧W = V.setCell ⟨mb,0,none⟩ (f 11)
def RCA (ty:(Nat→Value)→Act) (C:Nat→Value→Prop) (mb B:Nat) (gv vo:Value) (gs:List Value) (base:World) (x:List Bool) (xn:Act) (W:World):Prop:=∃ f,xn = ty f∧RC C mb B gv vo gs base x f W
def C0G (mb:Nat) (gv vo:Value):Nat→Value→Prop
 | 0,v | 1,v | 2,v | 3,v | 4,v | 6,v | 7,v | 12,v | 13,v | 14,v=>v = I mb 0
 | 5,v=>v = gv
 | 8,v=>v = I mb 11
 | 9,v=>v = vo
 | _,_=>True
section
variable {C:Nat→Value→Prop} {mb B:Nat} {gv vo:Value} {gs:List Value} {base W W':World} {x:List Bool} {f:Nat→Value}
theorem bL (h:RC C mb B gv vo gs base x f W) (i:Nat) (v:Value) (hv:C i v) (vQ:i ≠ 10) (uZ:i ≠ 11) (vx:i ≠ 15):RC C mb B gv vo gs base (x.set i true) (upd f i v) W:=by
 refine ⟨zy h.c hv,?_,?_,?_,?_⟩ <;> simp only [gq vQ,gq uZ,gq vx,zr f v vQ.symm,zr f v uZ.symm]
 ·exact h.b
 ·exact h.m10
 ·exact h.m11
 ·exact h.m15
theorem rc_10 (h:RC (C0G mb gv vo) mb B gv vo gs base x f W) (uZ:x[11]? = some false) (vx:x[15]? = some false):RC (C0G mb gv vo) mb B gv vo gs base (x.set 10 true) (upd f 10 (.slice (some (yq W 0)) 1 1)) (W.alloc (E #[vo] 38)):=by
 have X:=h.b uZ
 refine ⟨zy h.c trivial,fun _=>X.alloc X.size _,fun _ _=>⟨W.heap.size,zp _ _ _,by have:=zi W [vo] 38 0 _ rfl; exact this⟩,?_,?_⟩
 ·intro e; rw [gq (by decide),uZ] at e; cases e
 ·intro e; rw [gq (by decide),vx] at e; cases e
theorem rc_11 (h:RC (C0G mb gv vo) mb B gv vo gs base x f W) (uZ:x[11]? = some false) (vx:x[15]? = some false) {v':Value} (Z:GRow W' B v' (gs ++ [vo])) (hg:base.grownBy W' gv.ownBlock):RC (C0G mb gv vo) mb B gv vo gs base (x.set 11 true) (upd f 11 v') W':=by
 refine ⟨zy h.c trivial,?_,?_,fun _ _=>⟨by rw [zp]; exact Z,hg⟩,?_⟩
 ·intro e; rw [gqs uZ] at e; cases e
 ·intro _ e; rw [gqs uZ] at e; cases e
 ·intro e; rw [gq (by decide),vx] at e; cases e
theorem rc_15 (h:RC (C0G mb gv vo) mb B gv vo gs base x f W) (oT:x[11]? = some true) (vx:x[15]? = some false) (Z:GRow W B (f 11) (gs ++ [vo])) (hg:base.grownBy W gv.ownBlock):RC (C0G mb gv vo) mb B gv vo gs base (x.set 15 true) f (W.setCell (J mb 0) (f 11)):=by
 refine ⟨fun j R=>?_,?_,?_,?_,fun _=>⟨W,Z,hg,rfl⟩⟩
 ·by_cases hji:j = 15
  ·subst hji; trivial
  ·rw [gq (fun e=>hji e.symm)] at R; exact h.c j R
 ·intro e; rw [gq (by decide),oT] at e; cases e
 ·intro _ e; rw [gq (by decide),oT] at e; cases e
 ·intro _ e; rw [gqs vx] at e; cases e
end
structure RD (C:Nat→Value→Prop) (mb:Nat) (tv:List Value) (base:World) (x:List Bool) (f:Nat→Value) (W:World):Prop where
 c:∀ j,x[j]? = some true→C j (f j)
 b:x[14]? = some false→Below base.heap.size base W
 m:x[14]? = some true→∃ V,Below base.heap.size base V∧W = V.setCells mb 3 tv
def RDA (ty:(Nat→Value)→Act) (C:Nat→Value→Prop) (mb:Nat) (tv:List Value) (base:World) (x:List Bool) (xn:Act) (W:World):Prop:=∃ f,xn = ty f∧RD C mb tv base x f W
def C1G (mb:Nat) (tv wv vo:Value):Nat→Value→Prop
 | 0,v | 1,v | 2,v | 3,v | 6,v | 7,v | 11,v | 12,v=>v = I mb 0
 | 4,v | 13,v=>v = I mb 3
 | 5,v=>v = tv
 | 8,v=>v = I mb 11
 | 9,v=>v = vo
 | 10,v=>v = wv
 | _,_=>True
section
variable {C:Nat→Value→Prop} {mb:Nat} {tv:List Value} {base W W':World} {x:List Bool} {f:Nat→Value}
theorem bG (h:RD C mb tv base x f W) (i:Nat) (v:Value) (hv:C i v) (jm:i ≠ 14):RD C mb tv base (x.set i true) (upd f i v) W:=by
 refine ⟨zy h.c hv,?_,?_⟩ <;> rw [gq jm]
 ·exact h.b
 ·exact h.m
theorem rd_grow (h:RD C mb tv base x f W) (jm:x[14]? = some false) (X:yn W W'):RD C mb tv base x f W' :=
 ⟨h.c,fun e=>(h.b e).trans (X.mono (h.b e).size),fun e=>by rw [jm] at e; cases e⟩
theorem rd_14 {tw wv vo:Value} (h:RD (C1G mb tw wv vo) mb tv base x f W) (jm:x[14]? = some false):RD (C1G mb tw wv vo) mb tv base (x.set 14 true) f (W.setCells mb 3 tv):=by
 refine ⟨fun j R=>?_,?_,fun _=>⟨W,h.b jm,rfl⟩⟩
 ·by_cases hji:j = 14
  ·subst hji; trivial
  ·rw [gq (fun e=>hji e.symm)] at R; exact h.c j R
 ·intro e; rw [gqs jm] at e; cases e
end
theorem cH {B e sz n b:Nat} {v:Value} {xs:List Value} (X:some b ≠ v.ownBlock):∀ (vs:List Value) (o:Nat) (W:World),W.ownsRow B e sz v n xs→(W.setCells b o vs).ownsRow B e sz v n xs
 | [],_,_,h=>h
 | u :: us,o,W,h=>by rw [World.setCells]; exact cH X us (o + 1) _ (zv h X o u)
theorem kind_setC (W:World) (b:Nat) {T:TypeId} {y:Nat × Nat}:∀ (vs:List Value) (o:Nat) {xu:Array Value},W.heap[b]? = some (.cells xu T y)→∃ cur',(W.setCells b o vs).heap[b]? = some (.cells cur' T y):=by
 intro vs
 induction vs generalizing W with
 | nil=>intro o xu h; exact ⟨xu,h⟩
 | cons u us ih =>
  intro o xu h
  rw [World.setCells]
  obtain ⟨c1,Q⟩:=zO W b o u h
  exact ih _ (o + 1) Q
theorem set_os (W:World) (a:Addr) (u:Value):(W.setCell a u).os = W.os:=rfl
theorem set_tape (W:World) (a:Addr) (u:Value):(W.setCell a u).tape = W.tape:=rfl
theorem set_output (W:World) (a:Addr) (u:Value):(W.setCell a u).output = W.output:=rfl
theorem eu (b:Nat):∀ (vs:List Value) (o:Nat) (W:World),(W.setCells b o vs).os = W.os
 | [],_,_=>rfl
 | u :: us,o,W=>by rw [World.setCells,eu b us (o + 1)]; rfl
theorem eh (b:Nat):∀ (vs:List Value) (o:Nat) (W:World),(W.setCells b o vs).tape = W.tape
 | [],_,_=>rfl
 | u :: us,o,W=>by rw [World.setCells,eh b us (o + 1)]; rfl
theorem ef (b:Nat):∀ (vs:List Value) (o:Nat) (W:World),(W.setCells b o vs).output = W.output
 | [],_,_=>rfl
 | u :: us,o,W=>by rw [World.setCells,ef b us (o + 1)]; rfl
theorem di (b k:Nat) (hk:k ≠ b):∀ (vs:List Value) (o:Nat) (W:World),(W.setCells b o vs).heap[k]? = W.heap[k]?
 | [],_,_=>rfl
 | u :: us,o,W=>by rw [World.setCells,di b k hk us (o + 1)]; exact yT _ _ _ _ hk
def Apt (Bo:Nat) (gs:List Value):Prop:=(∀ g ∈ gs,∀ b,g.ownBlock = some b→b < Bo)∧gs.Pairwise fun g g'=>∀ b b',g.ownBlock = some b→g'.ownBlock = some b'→b < b'
structure EnS (mb B Bo:Nat) (W:World) (gv:Value) (gs:List Value) (gl:List (List Ev)) (next:Int) (vq:Value) (l:List Od) (t:Tot) (vo:Value) (ts:List Ev):Prop where
 cells:W.rangeAt mb 0 [gv,.int .i64 next,vq,.int .i64 t.gr,.int .i64 t.ac,.int .i64 t.rf,.int .i64 t.tr,.int .i64 t.vo,.int .i64 t.no,.int .i64 t.li,.int .i64 t.le,vo]
 there:W.there mb 0 12
 grow:GRow W B gv gs
 glen:gs.length = gl.length
 geach:∀ (i:Nat) (g:Value) (es:List Ev),gs[i]? = some g→gl[i]? = some es→ERow W B g es
 glt:Apt Bo gs
 orow:ORow W B vq l
 erow:ERow W Bo vo ts
 box:∃ cur,W.heap[mb]? = some (.cells cur 71 (0,0))
 bo:B ≤ Bo
 le:Bo ≤ W.heap.size
section
variable {mb B Bo:Nat} {W w':World} {gv:Value} {gs:List Value} {gl:List (List Ev)} {next:Int} {vq:Value} {l:List Od} {t:Tot} {vo:Value} {ts:List Ev}
theorem EnS.lt (h:EnS mb B Bo W gv gs gl next vq l t vo ts):mb < W.heap.size:=by
 obtain ⟨xu,h⟩:=h.box
 exact (yZ.1 h).1
theorem EnS.apart (h:EnS mb B Bo W gv gs gl next vq l t vo ts) {g:Value} (hg:g ∈ gs):g.ownBlock = none ∨ g.ownBlock ≠ vo.ownBlock:=by
 cases e:g.ownBlock with
 | none=>exact .inl rfl
 | some b =>
  refine .inr fun e'=>?_
  have Q:=h.glt.1 g hg b e
  have N:=(h.erow.lt b e'.symm).1
  omega
theorem ens_told (h:EnS mb B Bo W gv gs gl next vq l t vo ts) {qu:Value} {ts':List Ev} (hc:w'.cell? (J mb 11) = some qu) (he:ERow w' Bo qu ts') (ht:TookAt mb 10 vo.ownBlock W w'):EnS mb B Bo w' gv gs gl next vq l t qu ts':=by
 have xr:∀ j,j ≠ 11→w'.cell? (J mb j) = W.cell? (J mb j):=fun j R=>ht.cell j (by omega)
 refine ⟨?_,fun j R=>⟨?_,?_⟩,bi h.grow ht (zl h.grow h.box (by decide)) (zD h.grow h.erow (by decide)),h.glen,?_,h.glt,bi h.orow ht (zl h.orow h.box (by decide)) (zD h.orow h.erow (by decide)),he,?_,h.bo,yO h.le ht.size⟩
 ·intro j u R
  by_cases uZ:j = 11
  ·subst uZ; cases R; rw [Nat.zero_add]; exact hc
  ·rw [Nat.zero_add,xr j uZ]
   have:W.cell? (J mb (0 + j)) = some u:=h.cells j u (by
    match j,R with
    | 0,R | 1,R | 2,R | 3,R | 4,R | 5,R | 6,R | 7,R | 8,R | 9,R | 10,R=>exact R
    | 11,R=>exact absurd rfl uZ
    | j + 12,R=>simp at R)
   rwa [Nat.zero_add] at this
 ·by_cases uZ:j = 11
  ·subst uZ; rw [Nat.zero_add,hc]; rfl
  ·rw [Nat.zero_add,xr j uZ]; have:=(h.there j R).1; rwa [Nat.zero_add] at this
 ·rw [Nat.zero_add,ht.frozen]; have:=(h.there j R).2; rwa [Nat.zero_add] at this
 ·intro i g es hg uS
  have hr:=h.geach i g es hg uS
  exact bi hr ht (zl hr h.box (by decide)) (h.apart (yP hg))
 ·obtain ⟨xu,X⟩:=h.box
  exact ht.kind _ _ _ X
end
theorem cB {mb B Bo:Nat} {gv:Value} {gs:List Value} {gl:List (List Ev)} {next:Int} {vq:Value} {l:List Od} {t:Tot} {vo:Value} {ts:List Ev} (e:Ev) (w:World) (h:EnS mb B Bo w gv gs gl next vq l t vo ts) (hn:ts.length ≤ 1000) :
  Calls Tryz.prog 65 #[I mb 0,.agg (yv e.kind e.cmd.k e.cmd.s e.cmd.t e.cmd.l e.cmd.q e.cmd.i e.cmd.p e.cmd.g e.id e.other e.qty e.price e.reason).toArray] w fun r w'=>r = ym (.tuple #[])∧(∃ qu,EnS mb B Bo w' gv gs gl next vq l t qu (ts ++ [e]))∧KeptBut mb B w w'∧TookAt mb 10 vo.ownBlock w w':=by
 refine (tell_any mb Bo vo ts e w (h.cells 11 _ rfl) ?_ h.box h.erow h.le hn).mono ?_
 ·have:=(h.there 11 (by omega)).2; rwa [Nat.zero_add] at this
 ·rintro r w' ⟨qu,rfl,hc,he,ht⟩
  exact ⟨rfl,⟨qu,ens_told h hc he ht⟩,cM ht (yO h.bo h.le) (fun g hg=>yO h.bo (h.erow.lt g hg).1),ht⟩
structure RW (C:Nat→Value→Prop) (n:Nat) (T:World→World) (base:World) (x:List Bool) (f:Nat→Value) (W:World):Prop where
 c:∀ j,x[j]? = some true→C j (f j)
 b:x[n]? = some false→Below base.heap.size base W
 m:x[n]? = some true→∃ V,Below base.heap.size base V∧W = T V
def RWA (ty:(Nat→Value)→Act) (C:Nat→Value→Prop) (n:Nat) (T:World→World) (base:World) (x:List Bool) (xn:Act) (W:World):Prop:=∃ f,xn = ty f∧RW C n T base x f W
section
variable {C:Nat→Value→Prop} {n:Nat} {T:World→World} {base W W':World} {x:List Bool} {f:Nat→Value}
theorem bh (h:RW C n T base x f W) (i:Nat) (v:Value) (hv:C i v) (hn:i ≠ n):RW C n T base (x.set i true) (upd f i v) W:=by
 refine ⟨zy h.c hv,?_,?_⟩ <;> rw [gq hn]
 ·exact h.b
 ·exact h.m
theorem rw_grow (h:RW C n T base x f W) (hn:x[n]? = some false) (X:yn W W'):RW C n T base x f W' :=
 ⟨h.c,fun e=>(h.b e).trans (X.mono (h.b e).size),fun e=>by rw [hn] at e; cases e⟩
theorem rw_last (h:RW C n T base x f W) (hn:x[n]? = some false) (hc:∀ j,j = n→x[j]? = some false→C j (f j)):RW C n T base (x.set n true) f (T W):=by
 refine ⟨fun j R=>?_,?_,fun _=>⟨W,h.b hn,rfl⟩⟩
 ·by_cases hji:j = n
  ·exact hc j hji (by rw [hji]; exact hn)
  ·rw [gq (fun e=>hji e.symm)] at R; exact h.c j R
 ·intro e; rw [gqs hn] at e; cases e
end
end Go.Proofs.YtbakanofkghmiaaGreat
