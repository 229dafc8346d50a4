/-
  A group's events counted, by the program: proved by walking the function.
-/
import Derived.Test.YtbakanofkghmiaaGreatPj25
set_option linter.unusedVariables false
set_option maxHeartbeats 6400000
set_option maxRecDepth 100000
namespace Go.Proofs.YtbakanofkghmiaaGreat
open Go.RowKit
structure Tot where
 gr:Int
 ac:Int
 rf:Int
 tr:Int
 vo:Int
 no:Int
 li:Int
 le:Int
def Tot.vs (t:Tot):List Value:=[H t.gr,H t.ac,H t.rf,H t.tr,H t.vo,H t.no,H t.li,H t.le]
def cntE (t:Tot) (e:Ev):Tot :=
 if e.kind = 1 then { t with ac:=wrap64 (t.ac + 1) } else if e.kind = 2 then { t with rf:=wrap64 (t.rf + 1) }
 else if e.kind = 3 then { t with tr:=wrap64 (t.tr + 1),vo:=wrap64 (t.vo + e.qty),no:=wrap64 (t.no + wrap64 (e.qty * e.price)) } else t
def wgT (t:Tot) (ts:List Ev):Tot:=ts.foldl cntE { t with gr:=wrap64 (t.gr + 1) }
theorem wg_step (t:Tot) (ts:List Ev) {k:Nat} {e:Ev} (h:ts[k]? = some e):wgT t (ts.take (k + 1)) = cntE (wgT t (ts.take k)) e:=by
 unfold wgT
 rw [List.take_add_one,h,List.foldl_append]; rfl
theorem range_set {W:World} {b j:Nat} {cs:List Value} {u:Value} (h:W.rangeAt b 0 cs) (L:j < cs.length):(W.setCell (J b j) u).rangeAt b 0 (cs.set j u):=by
 intro i v hi
 rw [Nat.zero_add]
 by_cases ar:j = i
 ·subst ar
  rw [List.getElem?_set_self L] at hi
  cases hi
  have:=h j _ (yE L)
  rw [Nat.zero_add] at this
  exact yJ _ _ _ this
 ·rw [yT ar] at hi
  have:=h i v hi
  rw [Nat.zero_add] at this
  exact (yI _ _ _ _ (zI ar)).trans this
theorem keep8 {w W:World} {S:Nat} {cs:List Value} (h:W.rangeAt S 0 cs∧W.there S 0 8∧W.there (S + 1) 0 8∧Below S w W∧S + 1 + 1 ≤ W.heap.size) (j:Nat) (L:j < cs.length) (u:Value):(W.setCell (J S j) u).rangeAt S 0 (cs.set j u)∧(W.setCell (J S j) u).there S 0 8∧(W.setCell (J S j) u).there (S + 1) 0 8∧Below S w (W.setCell (J S j) u)∧S + 1 + 1 ≤ (W.setCell (J S j) u).heap.size :=
 ⟨range_set h.1 L,bj h.2.1,bj h.2.2.1,h.2.2.2.1.setCell (p:=(J S j)) tg _,by simp only [World.setCell,Array.size_modify]; exact h.2.2.2.2⟩
theorem ev_cells {W:World} {b o:Nat} {e:Ev} (h:W.rangeAt b o e.vs):W.cell? (J b o) = some (H e.kind)∧W.cell? (J b (o + 1)) = some (H e.cmd.k)∧W.cell? (J b (o + 2)) = some (H e.cmd.s)∧W.cell? (J b (o + 3)) = some (H e.cmd.t)∧W.cell? (J b (o + 4)) = some (H e.cmd.l)∧W.cell? (J b (o + 5)) = some (H e.cmd.q)∧W.cell? (J b (o + 6)) = some (H e.cmd.i)∧W.cell? (J b (o + 7)) = some (yh e.cmd.p)∧W.cell? (J b (o + 8)) = some (yi e.cmd.g)∧W.cell? (J b (o + 9)) = some (H e.id)∧W.cell? (J b (o + 10)) = some (H e.other)∧W.cell? (J b (o + 11)) = some (H e.qty)∧W.cell? (J b (o + 12)) = some (H e.price)∧W.cell? (J b (o + 13)) = some (H e.reason):=⟨h 0 _ rfl,h 1 _ rfl,h 2 _ rfl,h 3 _ rfl,h 4 _ rfl,h 5 _ rfl,h 6 _ rfl,h 7 _ rfl,h 8 _ rfl,h 9 _ rfl,h 10 _ rfl,h 11 _ rfl,h 12 _ rfl,h 13 _ rfl⟩
theorem withGroup_any (t:Tot) (v:Value) (ts:List Ev) (w:World) (hr:RdR Ev.vs 14 w v ts) :
  Calls Tryz.prog 106 #[.agg #[H t.gr,H t.ac,H t.rf,H t.tr,H t.vo,H t.no,H t.li,H t.le],v] w fun r w'=>r = yk (.agg #[H (wgT t ts).gr,H (wgT t ts).ac,H (wgT t ts).rf,H (wgT t ts).tr,H (wgT t ts).vo,H (wgT t ts).no,H (wgT t ts).li,H (wgT t ts).le])∧yl w w':=by
 obtain ⟨a,F,rfl,xD,hc⟩:=hr
 have xn:∀ (k:Nat) (c:Ev),ts[k]? = some c→∃ b off,a = some (J b off)∧b < w.heap.size∧w.rangeAt b (off + k * 14) c.vs:=by
  intro k c hk
  obtain ⟨b,off,z,K,h3⟩:=hc (by intro h; rw [h] at hk; simp at hk)
  exact ⟨b,off,z,K,h3 k c hk⟩
 have HC:=Q xn
 clear xn hc
 have hsf:=sfl
 have xz:=ze w (E #[H t.gr,H t.ac,H t.rf,H t.tr,H t.vo,H t.no,H t.li,H t.le] 30)
 have xY:((w.alloc (E #[H t.gr,H t.ac,H t.rf,H t.tr,H t.vo,H t.no,H t.li,H t.le] 30)).alloc (E #[H 0,H 0,H 0,H 0,H 0,H 0,H 0,H 0] 30)).heap.size = w.heap.size + 1 + 1:=by rw [ze,xz]
 have r1:=zg w [H t.gr,H t.ac,H t.rf,H t.tr,H t.vo,H t.no,H t.li,H t.le] 30
 have t1:=zH w [H t.gr,H t.ac,H t.rf,H t.tr,H t.vo,H t.no,H t.li,H t.le] 30
 have t2:=zH (w.alloc (E #[H t.gr,H t.ac,H t.rf,H t.tr,H t.vo,H t.no,H t.li,H t.le] 30)) [H 0,H 0,H 0,H 0,H 0,H 0,H 0,H 0] 30
 rw [xz] at t2
 have b1:=eD w (E #[H t.gr,H t.ac,H t.rf,H t.tr,H t.vo,H t.no,H t.li,H t.le] 30)
 have b2:Below (w.heap.size + 1) (w.alloc (E #[H t.gr,H t.ac,H t.rf,H t.tr,H t.vo,H t.no,H t.li,H t.le] 30)) ((w.alloc (E #[H t.gr,H t.ac,H t.rf,H t.tr,H t.vo,H t.no,H t.li,H t.le] 30)).alloc (E #[H 0,H 0,H 0,H 0,H 0,H 0,H 0,H 0] 30)):=(Below.refl _ _).alloc (by omega) _
 have HX:Hid (_∧_∧_):=⟨zb r1 b2 (by omega),zf t1 b2 (by omega),t2⟩
 have HB:=Q (b1.trans (b2.mono (by omega)))
 have HS:=Q xY
 clear xz xY r1 t1 t2 b1 b2
 go_enter Tryz.func106,Tryz.ntmps106
 refine eH fun h2 xu=>?_
 go_wp2_with fail
 refine M xu _ _ ?_
 clear xu
 generalize ((w.alloc (E #[H t.gr,H t.ac,H t.rf,H t.tr,H t.vo,H t.no,H t.li,H t.le] 30)).alloc (E #[H 0,H 0,H 0,H 0,H 0,H 0,H 0,H 0] 30)) = qt at HX HB HS ⊢
 have HX:Hid (qt.rangeAt w.heap.size 0 [H t.gr,H t.ac,H t.rf,H t.tr,H t.vo,H t.no,H t.li,H t.le]∧qt.there w.heap.size 0 8∧qt.there (w.heap.size + 1) 0 8):=M HX
 have c0:qt.cell? (yn w 0) = some (H t.gr):=(M HX).1 0 _ rfl
 obtain ⟨y0,z0,q0⟩:=zd (M HX).2.1 (j:=0) (by omega)
 clear z0 y0
 refine eH fun h2 xu=>?_
 go_wp2_with fail
 refine M xu _ _ ?_
 clear xu
 have ux:Hid (World.rangeAt (qt.setCell (yn w 0) (H (wrap64 (t.gr + 1)))) w.heap.size 0 (wgT t (ts.take 0)).vs∧World.there (qt.setCell (yn w 0) (H (wrap64 (t.gr + 1)))) w.heap.size 0 8∧World.there (qt.setCell (yn w 0) (H (wrap64 (t.gr + 1)))) (w.heap.size + 1) 0 8∧yl w (qt.setCell (yn w 0) (H (wrap64 (t.gr + 1))))∧(qt.setCell (yn w 0) (H (wrap64 (t.gr + 1)))).heap.size = w.heap.size + 1 + 1):=by
  refine ⟨?_,bj (M HX).2.1,bj (M HX).2.2,(M HB).setCell (p:=(yn w 0)) tg _,by simp [World.setCell]; exact M HS⟩
  intro j u L
  rw [Nat.zero_add]
  match j,L with
  | 0,L=>cases L; exact yJ _ _ _ c0
  | 1,L=>cases L; exact (yI _ _ _ _ (zI (by omega))).trans ((M HX).1 1 _ rfl)
  | 2,L=>cases L; exact (yI _ _ _ _ (zI (by omega))).trans ((M HX).1 2 _ rfl)
  | 3,L=>cases L; exact (yI _ _ _ _ (zI (by omega))).trans ((M HX).1 3 _ rfl)
  | 4,L=>cases L; exact (yI _ _ _ _ (zI (by omega))).trans ((M HX).1 4 _ rfl)
  | 5,L=>cases L; exact (yI _ _ _ _ (zI (by omega))).trans ((M HX).1 5 _ rfl)
  | 6,L=>cases L; exact (yI _ _ _ _ (zI (by omega))).trans ((M HX).1 6 _ rfl)
  | 7,L=>cases L; exact (yI _ _ _ _ (zI (by omega))).trans ((M HX).1 7 _ rfl)
  | j + 8,L=>simp [Tot.vs] at L
 have HSU:Hid (_∧_∧_∧_∧_):=⟨(M ux).1,(M ux).2.1,(M ux).2.2.1,(M ux).2.2.2.1,Nat.le_of_eq (M ux).2.2.2.2.symm⟩
 generalize (qt.setCell (yn w 0) (H (wrap64 (t.gr + 1)))) = X1 at ux HSU ⊢
 clear c0 q0 HX HB HS ux
 go_wp2_with fail
 go_loopw [13] (fun iv wr=>∃ (k:Nat),k ≤ ts.length∧iv = H k∧Hid (wr.rangeAt w.heap.size 0 (wgT t (ts.take k)).vs∧wr.there w.heap.size 0 8∧wr.there (w.heap.size + 1) 0 8∧yl w wr∧w.heap.size + 1 + 1 ≤ wr.heap.size)) (fun iv _=>ts.length - (intOf iv).toNat)
 case atStart=>exact ⟨0,Nat.zero_le _,rfl,M HSU⟩
 case round =>
  obtain ⟨k,hk,rfl,uT⟩:=hrel
  by_cases xL:k < ts.length
  ·obtain ⟨e,hke⟩:∃ e,ts[k]? = some e:=⟨_,yE xL⟩
   obtain ⟨b,off,rfl,hb,xk⟩:=M HC k e hke
   have HNX:=Q (wg_step t ts hke)
   have uO:(k:Int) < ts.length:=by omega
   have hse:=(M uT).2.2.2.2
   obtain ⟨g0,g1,g2,g3,g4,g5,g6,g7,g8,g9,vP,vr,xX,kE⟩:=ev_cells (zb xk (M uT).2.2.2.1 hb)
   have qd:=eD wr (E (ys e.kind e.cmd.k e.cmd.s e.cmd.t e.cmd.l e.cmd.q e.cmd.i e.cmd.p e.cmd.g e.id e.other e.qty e.price e.reason).toArray 46)
   have HY:Hid (World.rangeAt (wr.alloc (E (ys e.kind e.cmd.k e.cmd.s e.cmd.t e.cmd.l e.cmd.q e.cmd.i e.cmd.p e.cmd.g e.id e.other e.qty e.price e.reason).toArray 46)) w.heap.size 0 (wgT t (ts.take k)).vs∧World.there (wr.alloc (E (ys e.kind e.cmd.k e.cmd.s e.cmd.t e.cmd.l e.cmd.q e.cmd.i e.cmd.p e.cmd.g e.id e.other e.qty e.price e.reason).toArray 46)) w.heap.size 0 8∧World.there (wr.alloc (E (ys e.kind e.cmd.k e.cmd.s e.cmd.t e.cmd.l e.cmd.q e.cmd.i e.cmd.p e.cmd.g e.id e.other e.qty e.price e.reason).toArray 46)) (w.heap.size + 1) 0 8∧yl w (wr.alloc (E (ys e.kind e.cmd.k e.cmd.s e.cmd.t e.cmd.l e.cmd.q e.cmd.i e.cmd.p e.cmd.g e.id e.other e.qty e.price e.reason).toArray 46))∧w.heap.size + 1 + 1 ≤ (wr.alloc (E (ys e.kind e.cmd.k e.cmd.s e.cmd.t e.cmd.l e.cmd.q e.cmd.i e.cmd.p e.cmd.g e.id e.other e.qty e.price e.reason).toArray 46)).heap.size):=⟨zb (M uT).1 qd (by omega),zf (M uT).2.1 qd (by omega),zf (M uT).2.2.1 qd (by omega),(M uT).2.2.2.1.trans (qd.mono (by omega)),yK hse qd.size⟩
   generalize wgT t (ts.take k) = T at HNX HY
   obtain ⟨tgr,tac,trf,ttr,tvo,tno,tli,tle⟩:=T
   have xA:w.heap.size ≠ wr.heap.size:=by omega
   have hne':wr.heap.size ≠ w.heap.size:=by omega
   have d0:(wr.alloc (E (ys e.kind e.cmd.k e.cmd.s e.cmd.t e.cmd.l e.cmd.q e.cmd.i e.cmd.p e.cmd.g e.id e.other e.qty e.price e.reason).toArray 46)).cell? (yn w 0) = some (H tgr):=(M HY).1 0 _ rfl
   have p0:(wr.alloc (E (ys e.kind e.cmd.k e.cmd.s e.cmd.t e.cmd.l e.cmd.q e.cmd.i e.cmd.p e.cmd.g e.id e.other e.qty e.price e.reason).toArray 46)).frozen? (yn w 0) = false:=by have:=((M HY).2.1 0 (by omega)).2; rwa [Nat.zero_add] at this
   have d1:(wr.alloc (E (ys e.kind e.cmd.k e.cmd.s e.cmd.t e.cmd.l e.cmd.q e.cmd.i e.cmd.p e.cmd.g e.id e.other e.qty e.price e.reason).toArray 46)).cell? (yn w 1) = some (H tac):=(M HY).1 1 _ rfl
   have p1:(wr.alloc (E (ys e.kind e.cmd.k e.cmd.s e.cmd.t e.cmd.l e.cmd.q e.cmd.i e.cmd.p e.cmd.g e.id e.other e.qty e.price e.reason).toArray 46)).frozen? (yn w 1) = false:=by have:=((M HY).2.1 1 (by omega)).2; rwa [Nat.zero_add] at this
   have d2:(wr.alloc (E (ys e.kind e.cmd.k e.cmd.s e.cmd.t e.cmd.l e.cmd.q e.cmd.i e.cmd.p e.cmd.g e.id e.other e.qty e.price e.reason).toArray 46)).cell? (yn w 2) = some (H trf):=(M HY).1 2 _ rfl
   have p2:(wr.alloc (E (ys e.kind e.cmd.k e.cmd.s e.cmd.t e.cmd.l e.cmd.q e.cmd.i e.cmd.p e.cmd.g e.id e.other e.qty e.price e.reason).toArray 46)).frozen? (yn w 2) = false:=by have:=((M HY).2.1 2 (by omega)).2; rwa [Nat.zero_add] at this
   have d3:(wr.alloc (E (ys e.kind e.cmd.k e.cmd.s e.cmd.t e.cmd.l e.cmd.q e.cmd.i e.cmd.p e.cmd.g e.id e.other e.qty e.price e.reason).toArray 46)).cell? (yn w 3) = some (H ttr):=(M HY).1 3 _ rfl
   have p3:(wr.alloc (E (ys e.kind e.cmd.k e.cmd.s e.cmd.t e.cmd.l e.cmd.q e.cmd.i e.cmd.p e.cmd.g e.id e.other e.qty e.price e.reason).toArray 46)).frozen? (yn w 3) = false:=by have:=((M HY).2.1 3 (by omega)).2; rwa [Nat.zero_add] at this
   have d4:(wr.alloc (E (ys e.kind e.cmd.k e.cmd.s e.cmd.t e.cmd.l e.cmd.q e.cmd.i e.cmd.p e.cmd.g e.id e.other e.qty e.price e.reason).toArray 46)).cell? (yn w 4) = some (H tvo):=(M HY).1 4 _ rfl
   have p4:(wr.alloc (E (ys e.kind e.cmd.k e.cmd.s e.cmd.t e.cmd.l e.cmd.q e.cmd.i e.cmd.p e.cmd.g e.id e.other e.qty e.price e.reason).toArray 46)).frozen? (yn w 4) = false:=by have:=((M HY).2.1 4 (by omega)).2; rwa [Nat.zero_add] at this
   have d5:(wr.alloc (E (ys e.kind e.cmd.k e.cmd.s e.cmd.t e.cmd.l e.cmd.q e.cmd.i e.cmd.p e.cmd.g e.id e.other e.qty e.price e.reason).toArray 46)).cell? (yn w 5) = some (H tno):=(M HY).1 5 _ rfl
   have p5:(wr.alloc (E (ys e.kind e.cmd.k e.cmd.s e.cmd.t e.cmd.l e.cmd.q e.cmd.i e.cmd.p e.cmd.g e.id e.other e.qty e.price e.reason).toArray 46)).frozen? (yn w 5) = false:=by have:=((M HY).2.1 5 (by omega)).2; rwa [Nat.zero_add] at this
   have d6:(wr.alloc (E (ys e.kind e.cmd.k e.cmd.s e.cmd.t e.cmd.l e.cmd.q e.cmd.i e.cmd.p e.cmd.g e.id e.other e.qty e.price e.reason).toArray 46)).cell? (yn w 6) = some (H tli):=(M HY).1 6 _ rfl
   have p6:(wr.alloc (E (ys e.kind e.cmd.k e.cmd.s e.cmd.t e.cmd.l e.cmd.q e.cmd.i e.cmd.p e.cmd.g e.id e.other e.qty e.price e.reason).toArray 46)).frozen? (yn w 6) = false:=by have:=((M HY).2.1 6 (by omega)).2; rwa [Nat.zero_add] at this
   have d7:(wr.alloc (E (ys e.kind e.cmd.k e.cmd.s e.cmd.t e.cmd.l e.cmd.q e.cmd.i e.cmd.p e.cmd.g e.id e.other e.qty e.price e.reason).toArray 46)).cell? (yn w 7) = some (H tle):=(M HY).1 7 _ rfl
   have p7:(wr.alloc (E (ys e.kind e.cmd.k e.cmd.s e.cmd.t e.cmd.l e.cmd.q e.cmd.i e.cmd.p e.cmd.g e.id e.other e.qty e.price e.reason).toArray 46)).frozen? (yn w 7) = false:=by have:=((M HY).2.1 7 (by omega)).2; rwa [Nat.zero_add] at this
   clear hke xk hb qd
   by_cases z:e.kind = 1
   ·have b1:(e.kind == 1) = true:=by simpa using z
    have HN:Hid (wgT t (ts.take (k + 1)) = ⟨tgr,wrap64 (tac + 1),trf,ttr,tvo,tno,tli,tle⟩):=(M HNX).trans (if_pos z)
    clear z
    go_wp2_with fail
    go_roundw
    case rel=>exact ⟨k + 1,by omega,by go_num,by rw [M HN]; exact keep8 (M HY) 1 (by simp [Tot.vs]) _⟩
    case measure=>simp [intOf]; omega
   have b1:(e.kind == 1) = false:=by rw [xa]; exact z
   by_cases K:e.kind = 2
   ·have b2:(e.kind == 2) = true:=by simpa using K
    have HN:Hid (wgT t (ts.take (k + 1)) = ⟨tgr,tac,wrap64 (trf + 1),ttr,tvo,tno,tli,tle⟩):=(M HNX).trans ((if_neg z).trans (if_pos K))
    clear z K
    go_wp2_with fail
    go_roundw
    case rel=>exact ⟨k + 1,by omega,by go_num,by rw [M HN]; exact keep8 (M HY) 2 (by simp [Tot.vs]) _⟩
    case measure=>simp [intOf]; omega
   have b2:(e.kind == 2) = false:=by rw [xa]; exact K
   by_cases h3:e.kind = 3
   ·have b3:(e.kind == 3) = true:=by simpa using h3
    have HN:Hid (wgT t (ts.take (k + 1)) = ⟨tgr,tac,trf,wrap64 (ttr + 1),wrap64 (tvo + e.qty),wrap64 (tno + wrap64 (e.qty * e.price)),tli,tle⟩):=(M HNX).trans ((if_neg z).trans ((if_neg K).trans (if_pos h3)))
    clear z K h3
    go_wp2_with fail
    go_roundw
    case rel=>exact ⟨k + 1,by omega,by go_num,by rw [M HN]; exact keep8 (keep8 (keep8 (M HY) 3 (by simp [Tot.vs]) _) 4 (by simp [Tot.vs]) _) 5 (by simp [Tot.vs]) _⟩
    case measure=>simp [intOf]; omega
   ·have b3:(e.kind == 3) = false:=by rw [xa]; exact h3
    have HN:Hid (wgT t (ts.take (k + 1)) = ⟨tgr,tac,trf,ttr,tvo,tno,tli,tle⟩):=(M HNX).trans ((if_neg z).trans ((if_neg K).trans (if_neg h3)))
    clear z K h3
    go_wp2_with fail
    go_roundw
    case rel=>exact ⟨k + 1,by omega,by go_num,by rw [M HN]; exact M HY⟩
    case measure=>simp [intOf]; omega
  ·have uO:¬ (k:Int) < ts.length:=by omega
   rw [yW (by omega)] at uT
   generalize hT:wgT t ts = T at uT
   have pX:=Q hT
   have HY:=Q (M uT)
   clear hT
   obtain ⟨tgr,tac,trf,ttr,tvo,tno,tli,tle⟩:=T
   have c0:wr.cell? (yn w 0) = some (H tgr):=(M HY).1 0 _ rfl
   obtain ⟨y0,z0,q0⟩:=zd (M HY).2.2.1 (j:=0) (by omega)
   have c1:wr.cell? (yn w 1) = some (H tac):=(M HY).1 1 _ rfl
   obtain ⟨y1,z1,q1⟩:=zd (M HY).2.2.1 (j:=1) (by omega)
   have c2:wr.cell? (yn w 2) = some (H trf):=(M HY).1 2 _ rfl
   obtain ⟨y2,z2,q2⟩:=zd (M HY).2.2.1 (j:=2) (by omega)
   have c3:wr.cell? (yn w 3) = some (H ttr):=(M HY).1 3 _ rfl
   obtain ⟨y3,z3,q3⟩:=zd (M HY).2.2.1 (j:=3) (by omega)
   have c4:wr.cell? (yn w 4) = some (H tvo):=(M HY).1 4 _ rfl
   obtain ⟨y4,z4,q4⟩:=zd (M HY).2.2.1 (j:=4) (by omega)
   have c5:wr.cell? (yn w 5) = some (H tno):=(M HY).1 5 _ rfl
   obtain ⟨y5,z5,q5⟩:=zd (M HY).2.2.1 (j:=5) (by omega)
   have c6:wr.cell? (yn w 6) = some (H tli):=(M HY).1 6 _ rfl
   obtain ⟨y6,z6,q6⟩:=zd (M HY).2.2.1 (j:=6) (by omega)
   have c7:wr.cell? (yn w 7) = some (H tle):=(M HY).1 7 _ rfl
   obtain ⟨y7,z7,q7⟩:=zd (M HY).2.2.1 (j:=7) (by omega)
   have HR8:=Q (yU wr (w.heap.size + 1) 0 [H tgr,H tac,H trf,H ttr,H tvo,H tno,H tli,H tle] (fun j L=>(M HY).2.2.1 j L))
   have HB8:=Q (zu (w.heap.size + 1) (by omega) [H tgr,H tac,H trf,H ttr,H tvo,H tno,H tli,H tle] 0 wr (M HY).2.2.2.1)
   clear uT
   go_wp2_with fail
   change bodyPost _ _ _ _ _ (wr.setCells (w.heap.size + 1) 0 [H tgr,H tac,H trf,H ttr,H tvo,H tno,H tli,H tle])
   generalize wr.setCells (w.heap.size + 1) 0 [H tgr,H tac,H trf,H ttr,H tvo,H tno,H tli,H tle] = WE at HR8 HB8 ⊢
   obtain ⟨d0,d1,d2,d3,d4,d5,d6,d7⟩:=yA (M HR8)
   try simp only [Exit.inBlock,Exit.then]
   refine bodyPost_ret (by simp [results,Tryz.results106,go_sem,d0,d1,d2,d3,d4,d5,d6,d7]; try rfl) rfl ?_
   exact ⟨by rw [M pX],M HB8⟩
theorem smCmd_same (c:Cm) (w:World) :
  Calls Tryz.prog 79 #[.agg (yu c.k c.s c.t c.l c.q c.i c.p c.g).toArray,.agg (yu c.k c.s c.t c.l c.q c.i c.p c.g).toArray] w fun e w' =>
   e = yk (.bool true)∧yl w w':=by
 obtain ⟨k,s,t,l,q,i,p,g⟩:=c
 simp only
 go_enter Tryz.func79,Tryz.ntmps79
 go_wp2_with (go_at_call 97; refine (sameFloat_any _ _).mono ?_; rintro e w' ⟨rfl,rfl⟩)
 go_returns
 refine ⟨rfl,?_⟩
 go_grown
theorem smEvent_same (e:Ev) (w:World) :
  Calls Tryz.prog 42 #[evV e,evV e] w fun x w'=>x = yk (.bool true)∧yl w w':=by
 obtain ⟨ui,⟨k,s,t,l,q,i,p,g⟩,id,xw,qty,xO,xF⟩:=e
 unfold evV
 have HE:=Q (fun W=>smCmd_same ⟨k,s,t,l,q,i,p,g⟩ W)
 simp only at *
 have xz:(w.alloc (E (ys ui k s t l q i p g id xw qty xO xF).toArray 46)).heap.size = w.heap.size + 1:=dR _ _
 have xY:((w.alloc (E (ys ui k s t l q i p g id xw qty xO xF).toArray 46)).alloc (E (ys ui k s t l q i p g id xw qty xO xF).toArray 46)).heap.size = w.heap.size + 1 + 1:=by rw [dR,xz]
 have b1:Below (w.heap.size + 1) (w.alloc (E (ys ui k s t l q i p g id xw qty xO xF).toArray 46)) ((w.alloc (E (ys ui k s t l q i p g id xw qty xO xF).toArray 46)).alloc (E (ys ui k s t l q i p g id xw qty xO xF).toArray 46)):=(Below.refl _ _).alloc (by rw [xz]; omega) _
 have r1:=zb (dW w (ys ui k s t l q i p g id xw qty xO xF) 46) b1 (by omega)
 have r2:=dW (w.alloc (E (ys ui k s t l q i p g id xw qty xO xF).toArray 46)) (ys ui k s t l q i p g id xw qty xO xF) 46
 rw [xz] at r2
 have HB:Hid (yl w ((w.alloc (E (ys ui k s t l q i p g id xw qty xO xF).toArray 46)).alloc (E (ys ui k s t l q i p g id xw qty xO xF).toArray 46))):=(eD _ _).alloc (by rw [xz]; omega) _
 have HX:Hid (_∧_∧_):=⟨r1,r2,xY⟩
 clear r1 r2 b1 xz xY
 go_enter Tryz.func42,Tryz.ntmps42
 go_wp2_with fail
 generalize ((w.alloc (E (ys ui k s t l q i p g id xw qty xO xF).toArray 46)).alloc (E (ys ui k s t l q i p g id xw qty xO xF).toArray 46)) = W at HX HB ⊢
 obtain ⟨jN,hr2,hsW⟩:=M HX
 refine (M HE _).mono ?_
 rintro e w2 ⟨rfl,ue⟩
 have xC:=Q (eG (M HB) ue)
 have q1:=zb jN ue (by omega)
 have q2:=zb hr2 ue (by omega)
 have x9:=q1 9 _ rfl
 have x10:=q1 10 _ rfl
 have x11:=q1 11 _ rfl
 have x12:=q1 12 _ rfl
 have x13:=q1 13 _ rfl
 have y9:=q2 9 _ rfl
 have y10:=q2 10 _ rfl
 have y11:=q2 11 _ rfl
 have y12:=q2 12 _ rfl
 have y13:=q2 13 _ rfl
 clear jN hr2 q1 q2 ue HX HB hsW
 go_wp2_with fail
 go_returns
 exact ⟨rfl,M xC⟩
theorem smEvents_same (va vb:Value) (l:List Ev) (w:World) (ha:RdR Ev.vs 14 w va l) (hb:RdR Ev.vs 14 w vb l) :
  Calls Tryz.prog 16 #[va,vb] w fun e w'=>e = yk (.bool true)∧yl w w':=by
 obtain ⟨aa,ca,rfl,hl,hca⟩:=ha
 obtain ⟨ab,cb,rfl,_,hcb⟩:=hb
 have xn:∀ (k:Nat) (c:Ev),l[k]? = some c→∃ b off b' vH,aa = some (J b off)∧ab = some (J b' vH)∧b < w.heap.size∧b' < w.heap.size∧w.rangeAt b (off + k * 14) c.vs∧w.rangeAt b' (vH + k * 14) c.vs:=by
  intro k c hk
  have xA:l ≠ []:=by intro h; rw [h] at hk; simp at hk
  obtain ⟨b,off,z,K,h3⟩:=hca xA
  obtain ⟨b',vH,pv,kj,h3'⟩:=hcb xA
  exact ⟨b,off,b',vH,z,pv,K,kj,h3 k c hk,h3' k c hk⟩
 have HC:=Q xn
 clear xn hca hcb
 go_enter Tryz.func16,Tryz.ntmps16
 go_wp2_with fail
 go_loopw [5] (fun i wr=>∃ k:Nat,k ≤ l.length∧i = H k∧yl w wr) (fun i _=>l.length - (intOf i).toNat)
 case atStart=>exact ⟨0,Nat.zero_le _,rfl,Below.refl _ _⟩
 case round =>
  obtain ⟨k,hk,rfl,xe⟩:=hrel
  have HB:=Q xe
  clear xe
  by_cases xL:k < l.length
  ·obtain ⟨c,uC⟩:∃ c,l[k]? = some c:=⟨_,yE xL⟩
   obtain ⟨b,off,b',vH,rfl,rfl,hb,oP,xk,vS⟩:=M HC k c uC
   obtain ⟨g0,g1,g2,g3,g4,g5,g6,g7,g8,g9,vP,vr,xX,kE⟩:=ev_cells (zb xk (M HB) hb)
   obtain ⟨e0,e1,e2,e3,e4,e5,e6,e7,e8,e9,jz,pq,e12,oe⟩:=ev_cells (zb vS (M HB) oP)
   have uO:(k:Int) < l.length:=by omega
   clear uC xk vS hb oP
   go_wp2_with fail
   go_region_with (go_at_call 42; refine (smEvent_same c _).mono ?_; rintro e w2 ⟨rfl,ue⟩; have xC:=Q ((M HB).drew.trans (ue.mono (M HB).drew.size)); clear ue)
   go_wp2_with fail
   go_roundw
   case rel=>exact ⟨k + 1,by omega,by go_num,M xC⟩
   case measure=>simp [intOf]; omega
   all_goals exact ⟨⟨k + 1,by omega,by go_num,M xC⟩,by simp [intOf]; omega⟩
  ·go_wp2_with fail
   go_ret
   exact ⟨rfl,M HB⟩
theorem smBook_same (n:Int) (va vb:Value) (l:List Od) (w:World) (ha:RdR Od.vs 6 w va l) (hb:RdR Od.vs 6 w vb l) :
  Calls Tryz.prog 13 #[.agg #[H n,va],.agg #[H n,vb]] w fun e w'=>e = yk (.bool true)∧yl w w':=by
 obtain ⟨aa,ca,rfl,hl,hca⟩:=ha
 obtain ⟨ab,cb,rfl,_,hcb⟩:=hb
 have xn:∀ (k:Nat) (c:Od),l[k]? = some c→∃ b off b' vH,aa = some (J b off)∧ab = some (J b' vH)∧b < w.heap.size∧b' < w.heap.size∧w.rangeAt b (off + k * 6) c.vs∧w.rangeAt b' (vH + k * 6) c.vs:=by
  intro k c hk
  have xA:l ≠ []:=by intro h; rw [h] at hk; simp at hk
  obtain ⟨b,off,z,K,h3⟩:=hca xA
  obtain ⟨b',vH,pv,kj,h3'⟩:=hcb xA
  exact ⟨b,off,b',vH,z,pv,K,kj,h3 k c hk,h3' k c hk⟩
 have HC:=Q xn
 clear xn hca hcb
 have z:=eD w (E #[H n,.slice aa l.length ca] 28)
 have x1:=aT w [H n,.slice aa l.length ca] 28
 have s1:=ze w (E #[H n,.slice aa l.length ca] 28)
 have K:Below (w.alloc (E #[H n,.slice aa l.length ca] 28)).heap.size (w.alloc (E #[H n,.slice aa l.length ca] 28)) ((w.alloc (E #[H n,.slice aa l.length ca] 28)).alloc (E #[H n,.slice ab l.length cb] 28)):=eD _ _
 have x2:=aT (w.alloc (E #[H n,.slice aa l.length ca] 28)) [H n,.slice ab l.length cb] 28
 have s2:=ze (w.alloc (E #[H n,.slice aa l.length ca] 28)) (E #[H n,.slice ab l.length cb] 28)
 have x1':=zG x1 K (by rw [s1]; omega)
 have xC:=Q (eG z K)
 rw [s1] at x2 s2
 have HX:Hid (_∧_∧_):=⟨x1',x2,s2⟩
 clear z x1 s1 K x2 s2 x1'
 go_enter Tryz.func13,Tryz.ntmps13
 go_wp2_with fail
 generalize ((w.alloc (E #[H n,.slice aa l.length ca] 28)).alloc (E #[H n,.slice ab l.length cb] 28)) = W2 at xC HX ⊢
 go_loopw [5] (fun i wr=>∃ k:Nat,k ≤ l.length∧i = H k∧yl W2 wr) (fun i _=>l.length - (intOf i).toNat)
 case atStart=>exact ⟨0,Nat.zero_le _,rfl,Below.refl _ _⟩
 case round =>
  obtain ⟨k,hk,rfl,xe⟩:=hrel
  have HB:=Q xe
  obtain ⟨r1,r2,xY⟩:=M HX
  have d1:=zq (zG r1 xe (by omega)) 1 rfl
  have d2:=zq (zG r2 xe (by omega)) 1 rfl
  clear r1 r2 xe
  by_cases xL:k < l.length
  ·obtain ⟨c,uC⟩:∃ c,l[k]? = some c:=⟨_,yE xL⟩
   obtain ⟨b,off,b',vH,rfl,rfl,hb,oP,xk,vS⟩:=M HC k c uC
   obtain ⟨p0,p1,p2,p3,p4,p5⟩:=zx (zb (zb xk (M xC) hb) (M HB) (yG hb (M xC).size))
   obtain ⟨q0,q1,q2,q3,q4,q5⟩:=zx (zb (zb vS (M xC) oP) (M HB) (yG oP (M xC).size))
   have uO:(k:Int) < l.length:=by omega
   clear uC xk vS hb oP
   go_wp2_with fail
   go_quiet (fail)
   go_wp2_with fail
   go_roundw
   case rel=>exact ⟨k + 1,by omega,by go_num,cH (M HB) nq⟩
   case measure=>simp [intOf]; omega
  ·go_wp2_with fail
   go_ret
   exact ⟨rfl,(M xC).trans ((M HB).mono (M xC).size)⟩
def fdyF:List Od→Nat→Int
 | [],_=>-1
 | o :: r,k=>if o.life = 1 then k else fdyF r (k + 1)
def fdy (l:List Od):Int:=fdyF l 0
theorem er (o:Od) (w:World) :
  Calls Tryz.prog 118 #[.agg (yt o.id o.side o.ticks o.left o.life o.tag).toArray] w fun e w'=>e = yk (.bool (o.life == 1))∧yl w w':=by
 obtain ⟨uy,side,ticks,left,life,tag⟩:=o
 simp only
 go_enter Tryz.func118,Tryz.ntmps118
 go_wp2_with fail
 go_ret
 exact ⟨rfl,by go_grown⟩
theorem indexDay_any (v:Value) (l:List Od) (w:World) (hr:RdR Od.vs 6 w v l) :
  Calls Tryz.prog 152 #[v,.func (.func 118) #[] #[]] w fun e w'=>e = yk (H (fdy l))∧yl w w':=by
 obtain ⟨a,F,rfl,xD,hc⟩:=hr
 have xn:∀ (k:Nat) (c:Od),l[k]? = some c→∃ b off,a = some (J b off)∧b < w.heap.size∧w.rangeAt b (off + k * 6) c.vs:=by
  intro k c hk
  obtain ⟨b,off,z,K,h3⟩:=hc (by intro h; rw [h] at hk; simp at hk)
  exact ⟨b,off,z,K,h3 k c hk⟩
 have HC:=Q xn
 clear xn hc
 go_enter Tryz.func152,Tryz.ntmps152
 go_wp2_with fail
 go_loopw [8] (fun iv wr=>∃ (k:Nat),k ≤ l.length∧iv = H k∧Hid (fdy l = fdyF (l.drop k) k)∧yl w wr) (fun iv _=>l.length - (intOf iv).toNat)
 case atStart=>exact ⟨0,Nat.zero_le _,rfl,rfl,Below.refl _ _⟩
 case round =>
  obtain ⟨k,hk,rfl,qN,xe⟩:=hrel
  have HB:=Q xe
  clear xe
  by_cases xL:k < l.length
  ·obtain ⟨c,uC⟩:∃ c,l[k]? = some c:=⟨_,yE xL⟩
   have HP:Hid (fdy l = if c.life = 1 then (k:Int) else fdyF (l.drop (k + 1)) (k + 1)):=by
    have:=M qN
    rw [drop_get uC] at this
    exact this
   obtain ⟨b,off,rfl,hb,xk⟩:=M HC k c uC
   obtain ⟨g0,g1,g2,g3,g4,g5⟩:=zx (zb xk (M HB) hb)
   have uO:(k:Int) < l.length:=by omega
   clear uC xk hb qN
   go_wp2_with fail
   refine (er c wr).mono ?_
   rintro e w3 ⟨rfl,uf⟩
   have xM:=Q (eG (M HB) uf)
   clear uf
   by_cases vM:c.life = 1
   ·have hb:(c.life == 1) = true:=by simpa using vM
    have HK:Hid (fdy l = k):=by have:=M HP; rw [if_pos vM] at this; exact this
    clear vM
    go_wp2_with fail
    go_ret
    exact ⟨zv (M HK).symm,M xM⟩
   ·have hb:(c.life == 1) = false:=by simpa using vM
    have HK:Hid (fdy l = fdyF (l.drop (k + 1)) (k + 1)):=by have:=M HP; rw [if_neg vM] at this; exact this
    clear vM
    go_wp2_with fail
    go_roundw
    case rel=>exact ⟨k + 1,by omega,by go_num,M HK,M xM⟩
    case measure=>simp [intOf]; omega
  ·have HK:Hid (fdy l = -1):=by
    have h:=M qN
    rw [yX (by omega)] at h
    exact h
   go_wp2_with fail
   go_ret
   exact ⟨zv (M HK).symm,M HB⟩
abbrev GRow (W:World) (B:Nat) (v:Value) (gs:List Value):Prop:=W.ownsRow B 38 1 v gs.length gs
theorem infoEvS:(Tryz.prog.info? 38).map (fun i=>(i.zero,i.size,i.bytes)) = some (some (.slice none 0 0),1,24):=by kernel_rfl
theorem cJ {W:World} {b n j:Nat} (h:W.there b 3 n) (L:j < n):∃ u,W.cell? (J b (3 + j)) = some u∧W.frozen? (J b (3 + j)) = false:=by
 obtain ⟨z,K⟩:=h j L
 obtain ⟨u,hu⟩:=Option.isSome_iff_exists.1 z
 exact ⟨u,hu,K⟩
theorem ez (b:Nat):∀ (vs:List Value) (o:Nat) (W:World) (a:Addr),(W.setCells b o vs).frozen? a = W.frozen? a
 | [],_,_,_=>rfl
 | v :: r,o,W,a=>by rw [World.setCells,ez b r (o + 1),World.frozen?_setCell]
structure RC (C:Nat→Value→Prop) (N B:Nat) (gv vo:Value) (gs:List Value) (base:World) (x:List Bool) (f:Nat→Value) (W:World):Prop where
 c:∀ j,x[j]? = some true→C j (f j)
 b:x[11]? = some false→Below base.heap.size base W
 m10:x[10]? = some true→x[11]? = some false→∃ s,f 10 = .slice (some ⟨s,0,none⟩) 1 1∧W.cell? ⟨s,0,none⟩ = some vo
 m11:x[11]? = some true→x[15]? = some false→GRow W B (f 11) (gs ++ [vo])∧base.grownBy W gv.ownBlock
 m15:x[15]? = some true→∃ V,GRow V B (f 11) (gs ++ [vo])∧base.grownBy V gv.ownBlock∧W = V.setCell ⟨N,0,none⟩ (f 11)
def RCA (xh:(Nat→Value)→Act) (C:Nat→Value→Prop) (N B:Nat) (gv vo:Value) (gs:List Value) (base:World) (x:List Bool) (hR:Act) (W:World):Prop:=∃ f,hR = xh f∧RC C N B gv vo gs base x f W
def C0G (N:Nat) (gv vo:Value):Nat→Value→Prop
 | 0,v | 1,v | 2,v | 3,v | 4,v | 6,v | 7,v | 12,v | 13,v | 14,v=>v = I N 0
 | 5,v=>v = gv
 | 8,v=>v = I N 11
 | 9,v=>v = vo
 | _,_=>True
section
variable {C:Nat→Value→Prop} {N B:Nat} {gv vo:Value} {gs:List Value} {base W W':World} {x:List Bool} {f:Nat→Value}
theorem bF (h:RC C N B gv vo gs base x f W) (i:Nat) (v:Value) (hv:C i v) (vL:i ≠ 10) (uL:i ≠ 11) (vl:i ≠ 15):RC C N B gv vo gs base (x.set i true) (upd f i v) W:=by
 refine ⟨zz h.c hv,?_,?_,?_,?_⟩ <;> simp only [gq vL,gq uL,gq vl,zr f v vL.symm,zr f v uL.symm]
 ·exact h.b
 ·exact h.m10
 ·exact h.m11
 ·exact h.m15
theorem rc_10 (h:RC (C0G N gv vo) N B gv vo gs base x f W) (uL:x[11]? = some false) (vl:x[15]? = some false):RC (C0G N gv vo) N B gv vo gs base (x.set 10 true) (upd f 10 (.slice (some (yn W 0)) 1 1)) (W.alloc (E #[vo] 38)):=by
 have hb:=h.b uL
 refine ⟨zz h.c trivial,fun _=>hb.alloc hb.size _,fun _ _=>⟨W.heap.size,zp _ _ _,by have:=zg W [vo] 38 0 _ rfl; exact this⟩,?_,?_⟩
 ·intro e; rw [gq (by decide),uL] at e; cases e
 ·intro e; rw [gq (by decide),vl] at e; cases e
theorem rc_11 (h:RC (C0G N gv vo) N B gv vo gs base x f W) (uL:x[11]? = some false) (vl:x[15]? = some false) {v':Value} (Y:GRow W' B v' (gs ++ [vo])) (hg:base.grownBy W' gv.ownBlock):RC (C0G N gv vo) N B gv vo gs base (x.set 11 true) (upd f 11 v') W':=by
 refine ⟨zz h.c trivial,?_,?_,fun _ _=>⟨by rw [zp]; exact Y,hg⟩,?_⟩
 ·intro e; rw [gqs uL] at e; cases e
 ·intro _ e; rw [gqs uL] at e; cases e
 ·intro e; rw [gq (by decide),vl] at e; cases e
theorem rc_15 (h:RC (C0G N gv vo) N B gv vo gs base x f W) (oD:x[11]? = some true) (vl:x[15]? = some false) (Y:GRow W B (f 11) (gs ++ [vo])) (hg:base.grownBy W gv.ownBlock):RC (C0G N gv vo) N B gv vo gs base (x.set 15 true) f (W.setCell (J N 0) (f 11)):=by
 refine ⟨fun j L=>?_,?_,?_,?_,fun _=>⟨W,Y,hg,rfl⟩⟩
 ·by_cases hji:j = 15
  ·subst hji; trivial
  ·rw [gq (fun e=>hji e.symm)] at L; exact h.c j L
 ·intro e; rw [gq (by decide),oD] at e; cases e
 ·intro _ e; rw [gq (by decide),oD] at e; cases e
 ·intro _ e; rw [gqs vl] at e; cases e
end
structure RD (C:Nat→Value→Prop) (N:Nat) (tv:List Value) (base:World) (x:List Bool) (f:Nat→Value) (W:World):Prop where
 c:∀ j,x[j]? = some true→C j (f j)
 b:x[14]? = some false→Below base.heap.size base W
 m:x[14]? = some true→∃ V,Below base.heap.size base V∧W = V.setCells N 3 tv
def RDA (xh:(Nat→Value)→Act) (C:Nat→Value→Prop) (N:Nat) (tv:List Value) (base:World) (x:List Bool) (hR:Act) (W:World):Prop:=∃ f,hR = xh f∧RD C N tv base x f W
def C1G (N:Nat) (tv wv vo:Value):Nat→Value→Prop
 | 0,v | 1,v | 2,v | 3,v | 6,v | 7,v | 11,v | 12,v=>v = I N 0
 | 4,v | 13,v=>v = I N 3
 | 5,v=>v = tv
 | 8,v=>v = I N 11
 | 9,v=>v = vo
 | 10,v=>v = wv
 | _,_=>True
section
variable {C:Nat→Value→Prop} {N:Nat} {tv:List Value} {base W W':World} {x:List Bool} {f:Nat→Value}
theorem bB (h:RD C N tv base x f W) (i:Nat) (v:Value) (hv:C i v) (qY:i ≠ 14):RD C N tv base (x.set i true) (upd f i v) W:=by
 refine ⟨zz h.c hv,?_,?_⟩ <;> rw [gq qY]
 ·exact h.b
 ·exact h.m
theorem rd_grow (h:RD C N tv base x f W) (qY:x[14]? = some false) (hb:yl W W'):RD C N tv base x f W' :=
 ⟨h.c,fun e=>(h.b e).trans (hb.mono (h.b e).size),fun e=>by rw [qY] at e; cases e⟩
theorem rd_14 {tw wv vo:Value} (h:RD (C1G N tw wv vo) N tv base x f W) (qY:x[14]? = some false):RD (C1G N tw wv vo) N tv base (x.set 14 true) f (W.setCells N 3 tv):=by
 refine ⟨fun j L=>?_,?_,fun _=>⟨W,h.b qY,rfl⟩⟩
 ·by_cases hji:j = 14
  ·subst hji; trivial
  ·rw [gq (fun e=>hji e.symm)] at L; exact h.c j L
 ·intro e; rw [gqs qY] at e; cases e
end
end Go.Proofs.YtbakanofkghmiaaGreat
