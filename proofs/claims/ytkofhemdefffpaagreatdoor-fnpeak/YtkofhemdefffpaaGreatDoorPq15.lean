/-.-/
import Derived.Test.YtkofhemdefffpaaGreatDoorPq12
import Derived.Test.YtkofhemdefffpaaGreatDoorPq14
set_option linter.unusedVariables false
set_option maxHeartbeats 6400000
set_option maxRecDepth 100000
namespace Go.Proofs.YtkofhemdefffpaaGreatDoor
open Go.RowKit
structure Tot where
 gr:Int
 ac:Int
 rf:Int
 tr:Int
 vo:Int
 no:Int
 li:Int
 le:Int
def Tot.vs (t:Tot):List Value:=[H t.gr,H t.ac,H t.rf,H t.tr,H t.vo,H t.no,H t.li,H t.le]
def cntE (t:Tot)(e:Ev):Tot:=
 if e.kind=1 then { t with ac:=wrap64 (t.ac+1) } else if e.kind=2 then { t with rf:=wrap64 (t.rf+1) }
 else if e.kind=3 then { t with tr:=wrap64 (t.tr+1),vo:=wrap64 (t.vo+e.qty),no:=wrap64 (t.no+wrap64 (e.qty*e.price)) } else t
def wgT (t:Tot)(ts:List Ev):Tot:=ts.foldl cntE { t with gr:=wrap64 (t.gr+1) }
theorem wg_step (t:Tot)(ts:List Ev){k:Nat}{e:Ev}(h:ts[k]? = some e):wgT t (ts.take (k+1))=cntE (wgT t (ts.take k)) e:=by
 unfold wgT;rw[List.take_add_one,h,List.foldl_append];rfl
theorem gN {W:World}{b j:Nat}{cs:List Value}{u:Value}(h:W.rangeAt b 0 cs)(hj:j<cs.length):(W.setCell (Y b j) u).rangeAt b 0 (cs.set j u):=by
 intro i v hi;rw[Nat.zero_add]
 by_cases pd:j=i
 ·subst pd;rw[List.getElem?_set_self hj] at hi;cases hi;have:=h j _ (yI hj);rw[Nat.zero_add] at this;exact yN _ _ _ this
 ·rw[yX pd] at hi;have:=h i v hi;rw[Nat.zero_add] at this;exact(yM _ _ _ _ (zV pd)).trans this
theorem keep8 {w W:World}{S:Nat}{cs:List Value}(h:W.rangeAt S 0 cs/\W.there S 0 8/\W.there (S+1) 0 8/\Below S w W/\S+1+1<=W.heap.size)(j:Nat)(hj:j<cs.length)(u:Value):(W.setCell (Y S j) u).rangeAt S 0 (cs.set j u)/\(W.setCell (Y S j) u).there S 0 8/\(W.setCell (Y S j) u).there (S+1) 0 8/\Below S w (W.setCell (Y S j) u)/\S+1+1<=(W.setCell (Y S j) u).heap.size:=
 ⟨gN h.1 hj,zU h.2.1,zU h.2.2.1,h.2.2.2.1.setCell (p:=(Y S j)) yb _,by simp only[World.setCell,Array.size_modify];exact h.2.2.2.2⟩
theorem ev_cells {W:World}{b o:Nat}{e:Ev}(h:W.rangeAt b o e.vs):W.cell? (Y b o)=some (H e.kind)/\W.cell? (Y b (o+1))=some (H e.cmd.k)/\W.cell? (Y b (o+2))=some (H e.cmd.s)/\W.cell? (Y b (o+3))=some (H e.cmd.t)/\W.cell? (Y b (o+4))=some (H e.cmd.l)/\W.cell? (Y b (o+5))=some (H e.cmd.q)/\W.cell? (Y b (o+6))=some (H e.cmd.i)/\W.cell? (Y b (o+7))=some (yk e.cmd.p)/\W.cell? (Y b (o+8))=some (yl e.cmd.g)/\W.cell? (Y b (o+9))=some (H e.id)/\W.cell? (Y b (o+10))=some (H e.other)/\W.cell? (Y b (o+11))=some (H e.qty)/\W.cell? (Y b (o+12))=some (H e.price)/\W.cell? (Y b (o+13))=some (H e.reason):=⟨h 0 _ rfl,h 1 _ rfl,h 2 _ rfl,h 3 _ rfl,h 4 _ rfl,h 5 _ rfl,h 6 _ rfl,h 7 _ rfl,h 8 _ rfl,h 9 _ rfl,h 10 _ rfl,h 11 _ rfl,h 12 _ rfl,h 13 _ rfl⟩
theorem withGroup_any (t:Tot)(v:Value)(ts:List Ev)(w:World)(hr:RdR Ev.vs 14 w v ts) :
  Calls Tryz.prog 108 #[.agg #[H t.gr,H t.ac,H t.rf,H t.tr,H t.vo,H t.no,H t.li,H t.le],v] w fun r w'=>r=yn (.agg #[H (wgT t ts).gr,H (wgT t ts).ac,H (wgT t ts).rf,H (wgT t ts).tr,H (wgT t ts).vo,H (wgT t ts).no,H (wgT t ts).li,H (wgT t ts).le])/\yp w w':=by
 obtain⟨a,cap,rfl,xC,hc⟩:=hr
 have xp:∀(k:Nat) (c:Ev),ts[k]? = some c->∃b off,a=some (Y b off)/\b<w.heap.size/\w.rangeAt b (off+k*14) c.vs:=by
  intro k c E;obtain⟨b,off,Z,Q,I⟩:=hc (by intro h;rw[h] at E;simp at E);exact⟨b,off,Z,Q,I k c E⟩
 have HC:=U xp;clear xp hc;have hsf:=sfl;have xG:=zi w (me #[H t.gr,H t.ac,H t.rf,H t.tr,H t.vo,H t.no,H t.li,H t.le] 44);have ug:((w.alloc (me #[H t.gr,H t.ac,H t.rf,H t.tr,H t.vo,H t.no,H t.li,H t.le] 44)).alloc (me #[H 0,H 0,H 0,H 0,H 0,H 0,H 0,H 0] 44)).heap.size=w.heap.size+1+1:=by rw[zi,xG]
 have r1:=zm w [H t.gr,H t.ac,H t.rf,H t.tr,H t.vo,H t.no,H t.li,H t.le] 44;have t1:=zM w [H t.gr,H t.ac,H t.rf,H t.tr,H t.vo,H t.no,H t.li,H t.le] 44;have t2:=zM (w.alloc (me #[H t.gr,H t.ac,H t.rf,H t.tr,H t.vo,H t.no,H t.li,H t.le] 44)) [H 0,H 0,H 0,H 0,H 0,H 0,H 0,H 0] 44;rw[xG] at t2;have b1:=mc w (me #[H t.gr,H t.ac,H t.rf,H t.tr,H t.vo,H t.no,H t.li,H t.le] 44);have b2:Below (w.heap.size+1) (w.alloc (me #[H t.gr,H t.ac,H t.rf,H t.tr,H t.vo,H t.no,H t.li,H t.le] 44)) ((w.alloc (me #[H t.gr,H t.ac,H t.rf,H t.tr,H t.vo,H t.no,H t.li,H t.le] 44)).alloc (me #[H 0,H 0,H 0,H 0,H 0,H 0,H 0,H 0] 44)):=(Below.refl _ _).alloc (by omega) _;have HX:Hid (_/\_/\_):=⟨zf r1 b2 (by omega),zk t1 b2 (by omega),t2⟩;have HB:=U (b1.trans (b2.mono (by omega)));have HS:=U ug;clear xG ug r1 t1 t2 b1 b2;go_enter Tryz.func108,Tryz.ntmps108;refine mg fun hb xw=>?_;go_wp2_with fail;refine O xw _ _ ?_;clear xw;generalize ((w.alloc (me #[H t.gr,H t.ac,H t.rf,H t.tr,H t.vo,H t.no,H t.li,H t.le] 44)).alloc (me #[H 0,H 0,H 0,H 0,H 0,H 0,H 0,H 0] 44))=xh at HX HB HS |-;have HX:Hid (xh.rangeAt w.heap.size 0 [H t.gr,H t.ac,H t.rf,H t.tr,H t.vo,H t.no,H t.li,H t.le]/\xh.there w.heap.size 0 8/\xh.there (w.heap.size+1) 0 8):=O HX;have c0:xh.cell? (yr w 0)=some (H t.gr):=(O HX).1 0 _ rfl;obtain⟨y0,z0,q0⟩:=zh (O HX).2.1 (j:=0) (by omega);clear z0 y0;refine mg fun hb xw=>?_;go_wp2_with fail;refine O xw _ _ ?_;clear xw
 have vS:Hid (World.rangeAt (xh.setCell (yr w 0) (H (wrap64 (t.gr+1)))) w.heap.size 0 (wgT t (ts.take 0)).vs/\World.there (xh.setCell (yr w 0) (H (wrap64 (t.gr+1)))) w.heap.size 0 8/\World.there (xh.setCell (yr w 0) (H (wrap64 (t.gr+1)))) (w.heap.size+1) 0 8/\yp w (xh.setCell (yr w 0) (H (wrap64 (t.gr+1))))/\(xh.setCell (yr w 0) (H (wrap64 (t.gr+1)))).heap.size=w.heap.size+1+1):=by
  refine⟨?_,zU (O HX).2.1,zU (O HX).2.2,(O HB).setCell (p:=(yr w 0)) yb _,by simp[World.setCell];exact O HS⟩;intro j u hj;rw[Nat.zero_add]
  match j,hj with
  | 0,hj=>cases hj;exact yN _ _ _ c0
  | 1,hj=>cases hj;exact(yM _ _ _ _ (zV (by omega))).trans ((O HX).1 1 _ rfl)
  | 2,hj=>cases hj;exact(yM _ _ _ _ (zV (by omega))).trans ((O HX).1 2 _ rfl)
  | 3,hj=>cases hj;exact(yM _ _ _ _ (zV (by omega))).trans ((O HX).1 3 _ rfl)
  | 4,hj=>cases hj;exact(yM _ _ _ _ (zV (by omega))).trans ((O HX).1 4 _ rfl)
  | 5,hj=>cases hj;exact(yM _ _ _ _ (zV (by omega))).trans ((O HX).1 5 _ rfl)
  | 6,hj=>cases hj;exact(yM _ _ _ _ (zV (by omega))).trans ((O HX).1 6 _ rfl)
  | 7,hj=>cases hj;exact(yM _ _ _ _ (zV (by omega))).trans ((O HX).1 7 _ rfl)
  | j+8,hj=>simp[Tot.vs] at hj
 have HSU:Hid (_/\_/\_/\_/\_):=⟨(O vS).1,(O vS).2.1,(O vS).2.2.1,(O vS).2.2.2.1,Nat.le_of_eq (O vS).2.2.2.2.symm⟩;generalize (xh.setCell (yr w 0) (H (wrap64 (t.gr+1))))=X1 at vS HSU |-;clear c0 q0 HX HB HS vS;go_wp2_with fail;go_loopw [13] (fun iv wr=>∃(k:Nat),k<=ts.length/\iv=H k/\Hid (wr.rangeAt w.heap.size 0 (wgT t (ts.take k)).vs/\wr.there w.heap.size 0 8/\wr.there (w.heap.size+1) 0 8/\yp w wr/\w.heap.size+1+1<=wr.heap.size)) (fun iv _=>ts.length-(intOf iv).toNat)
 case atStart=>exact⟨0,Nat.zero_le _,rfl,O HSU⟩
 case round =>
  obtain⟨k,E,rfl,ue⟩:=hrel
  by_cases xK:k<ts.length
  ·obtain⟨e,oB⟩:∃e,ts[k]? = some e:=⟨_,yI xK⟩;obtain⟨b,off,rfl,K,xo⟩:=O HC k e oB;have uM:=U (wg_step t ts oB);have ux:(k:Int)<ts.length:=by omega
   have hse:=(O ue).2.2.2.2;obtain⟨g0,g1,g2,g3,g4,g5,g6,g7,g8,g9,kN,jR,ql,pA⟩:=ev_cells (zf xo (O ue).2.2.2.1 K);have jk:=mc wr (me (yw e.kind e.cmd.k e.cmd.s e.cmd.t e.cmd.l e.cmd.q e.cmd.i e.cmd.p e.cmd.g e.id e.other e.qty e.price e.reason).toArray 78);have HY:Hid (World.rangeAt (wr.alloc (me (yw e.kind e.cmd.k e.cmd.s e.cmd.t e.cmd.l e.cmd.q e.cmd.i e.cmd.p e.cmd.g e.id e.other e.qty e.price e.reason).toArray 78)) w.heap.size 0 (wgT t (ts.take k)).vs/\World.there (wr.alloc (me (yw e.kind e.cmd.k e.cmd.s e.cmd.t e.cmd.l e.cmd.q e.cmd.i e.cmd.p e.cmd.g e.id e.other e.qty e.price e.reason).toArray 78)) w.heap.size 0 8/\World.there (wr.alloc (me (yw e.kind e.cmd.k e.cmd.s e.cmd.t e.cmd.l e.cmd.q e.cmd.i e.cmd.p e.cmd.g e.id e.other e.qty e.price e.reason).toArray 78)) (w.heap.size+1) 0 8/\yp w (wr.alloc (me (yw e.kind e.cmd.k e.cmd.s e.cmd.t e.cmd.l e.cmd.q e.cmd.i e.cmd.p e.cmd.g e.id e.other e.qty e.price e.reason).toArray 78))/\w.heap.size+1+1<=(wr.alloc (me (yw e.kind e.cmd.k e.cmd.s e.cmd.t e.cmd.l e.cmd.q e.cmd.i e.cmd.p e.cmd.g e.id e.other e.qty e.price e.reason).toArray 78)).heap.size):=⟨zf (O ue).1 jk (by omega),zk (O ue).2.1 jk (by omega),zk (O ue).2.2.1 jk (by omega),(O ue).2.2.2.1.trans (jk.mono (by omega)),yO hse jk.size⟩;generalize wgT t (ts.take k)=T at uM HY;obtain⟨uS,uR,uU,uV,uW,uT,uD,vk⟩:=T;have xE:w.heap.size≠wr.heap.size:=by omega
   have hne':wr.heap.size≠w.heap.size:=by omega
   have d0:(wr.alloc (me (yw e.kind e.cmd.k e.cmd.s e.cmd.t e.cmd.l e.cmd.q e.cmd.i e.cmd.p e.cmd.g e.id e.other e.qty e.price e.reason).toArray 78)).cell? (yr w 0)=some (H uS):=(O HY).1 0 _ rfl;have p0:(wr.alloc (me (yw e.kind e.cmd.k e.cmd.s e.cmd.t e.cmd.l e.cmd.q e.cmd.i e.cmd.p e.cmd.g e.id e.other e.qty e.price e.reason).toArray 78)).frozen? (yr w 0)=false:=by have:=((O HY).2.1 0 (by omega)).2;rwa[Nat.zero_add] at this
   have d1:(wr.alloc (me (yw e.kind e.cmd.k e.cmd.s e.cmd.t e.cmd.l e.cmd.q e.cmd.i e.cmd.p e.cmd.g e.id e.other e.qty e.price e.reason).toArray 78)).cell? (yr w 1)=some (H uR):=(O HY).1 1 _ rfl;have p1:(wr.alloc (me (yw e.kind e.cmd.k e.cmd.s e.cmd.t e.cmd.l e.cmd.q e.cmd.i e.cmd.p e.cmd.g e.id e.other e.qty e.price e.reason).toArray 78)).frozen? (yr w 1)=false:=by have:=((O HY).2.1 1 (by omega)).2;rwa[Nat.zero_add] at this
   have d2:(wr.alloc (me (yw e.kind e.cmd.k e.cmd.s e.cmd.t e.cmd.l e.cmd.q e.cmd.i e.cmd.p e.cmd.g e.id e.other e.qty e.price e.reason).toArray 78)).cell? (yr w 2)=some (H uU):=(O HY).1 2 _ rfl;have p2:(wr.alloc (me (yw e.kind e.cmd.k e.cmd.s e.cmd.t e.cmd.l e.cmd.q e.cmd.i e.cmd.p e.cmd.g e.id e.other e.qty e.price e.reason).toArray 78)).frozen? (yr w 2)=false:=by have:=((O HY).2.1 2 (by omega)).2;rwa[Nat.zero_add] at this
   have d3:(wr.alloc (me (yw e.kind e.cmd.k e.cmd.s e.cmd.t e.cmd.l e.cmd.q e.cmd.i e.cmd.p e.cmd.g e.id e.other e.qty e.price e.reason).toArray 78)).cell? (yr w 3)=some (H uV):=(O HY).1 3 _ rfl;have p3:(wr.alloc (me (yw e.kind e.cmd.k e.cmd.s e.cmd.t e.cmd.l e.cmd.q e.cmd.i e.cmd.p e.cmd.g e.id e.other e.qty e.price e.reason).toArray 78)).frozen? (yr w 3)=false:=by have:=((O HY).2.1 3 (by omega)).2;rwa[Nat.zero_add] at this
   have d4:(wr.alloc (me (yw e.kind e.cmd.k e.cmd.s e.cmd.t e.cmd.l e.cmd.q e.cmd.i e.cmd.p e.cmd.g e.id e.other e.qty e.price e.reason).toArray 78)).cell? (yr w 4)=some (H uW):=(O HY).1 4 _ rfl;have p4:(wr.alloc (me (yw e.kind e.cmd.k e.cmd.s e.cmd.t e.cmd.l e.cmd.q e.cmd.i e.cmd.p e.cmd.g e.id e.other e.qty e.price e.reason).toArray 78)).frozen? (yr w 4)=false:=by have:=((O HY).2.1 4 (by omega)).2;rwa[Nat.zero_add] at this
   have d5:(wr.alloc (me (yw e.kind e.cmd.k e.cmd.s e.cmd.t e.cmd.l e.cmd.q e.cmd.i e.cmd.p e.cmd.g e.id e.other e.qty e.price e.reason).toArray 78)).cell? (yr w 5)=some (H uT):=(O HY).1 5 _ rfl;have p5:(wr.alloc (me (yw e.kind e.cmd.k e.cmd.s e.cmd.t e.cmd.l e.cmd.q e.cmd.i e.cmd.p e.cmd.g e.id e.other e.qty e.price e.reason).toArray 78)).frozen? (yr w 5)=false:=by have:=((O HY).2.1 5 (by omega)).2;rwa[Nat.zero_add] at this
   have d6:(wr.alloc (me (yw e.kind e.cmd.k e.cmd.s e.cmd.t e.cmd.l e.cmd.q e.cmd.i e.cmd.p e.cmd.g e.id e.other e.qty e.price e.reason).toArray 78)).cell? (yr w 6)=some (H uD):=(O HY).1 6 _ rfl;have p6:(wr.alloc (me (yw e.kind e.cmd.k e.cmd.s e.cmd.t e.cmd.l e.cmd.q e.cmd.i e.cmd.p e.cmd.g e.id e.other e.qty e.price e.reason).toArray 78)).frozen? (yr w 6)=false:=by have:=((O HY).2.1 6 (by omega)).2;rwa[Nat.zero_add] at this
   have d7:(wr.alloc (me (yw e.kind e.cmd.k e.cmd.s e.cmd.t e.cmd.l e.cmd.q e.cmd.i e.cmd.p e.cmd.g e.id e.other e.qty e.price e.reason).toArray 78)).cell? (yr w 7)=some (H vk):=(O HY).1 7 _ rfl;have p7:(wr.alloc (me (yw e.kind e.cmd.k e.cmd.s e.cmd.t e.cmd.l e.cmd.q e.cmd.i e.cmd.p e.cmd.g e.id e.other e.qty e.price e.reason).toArray 78)).frozen? (yr w 7)=false:=by have:=((O HY).2.1 7 (by omega)).2;rwa[Nat.zero_add] at this
   clear oB xo K jk
   by_cases Z:e.kind=1
   ·have b1:(e.kind==1)=true:=by simpa using Z
    have HN:Hid (wgT t (ts.take (k+1))=⟨uS,wrap64 (uR+1),uU,uV,uW,uT,uD,vk⟩):=(O uM).trans (if_pos Z);clear Z;go_wp2_with fail;go_roundw
    case rel=>exact⟨k+1,by omega,by go_num,by rw[O HN];exact keep8 (O HY) 1 (by simp[Tot.vs]) _⟩
    case measure=>simp[intOf];omega
   have b1:(e.kind==1)=false:=by rw[xe];exact Z
   by_cases Q:e.kind=2
   ·have b2:(e.kind==2)=true:=by simpa using Q
    have HN:Hid (wgT t (ts.take (k+1))=⟨uS,uR,wrap64 (uU+1),uV,uW,uT,uD,vk⟩):=(O uM).trans ((if_neg Z).trans (if_pos Q));clear Z Q;go_wp2_with fail;go_roundw
    case rel=>exact⟨k+1,by omega,by go_num,by rw[O HN];exact keep8 (O HY) 2 (by simp[Tot.vs]) _⟩
    case measure=>simp[intOf];omega
   have b2:(e.kind==2)=false:=by rw[xe];exact Q
   by_cases I:e.kind=3
   ·have b3:(e.kind==3)=true:=by simpa using I
    have HN:Hid (wgT t (ts.take (k+1))=⟨uS,uR,uU,wrap64 (uV+1),wrap64 (uW+e.qty),wrap64 (uT+wrap64 (e.qty*e.price)),uD,vk⟩):=(O uM).trans ((if_neg Z).trans ((if_neg Q).trans (if_pos I)));clear Z Q I;go_wp2_with fail;go_roundw
    case rel=>exact⟨k+1,by omega,by go_num,by rw[O HN];exact keep8 (keep8 (keep8 (O HY) 3 (by simp[Tot.vs]) _) 4 (by simp[Tot.vs]) _) 5 (by simp[Tot.vs]) _⟩
    case measure=>simp[intOf];omega
   ·have b3:(e.kind==3)=false:=by rw[xe];exact I
    have HN:Hid (wgT t (ts.take (k+1))=⟨uS,uR,uU,uV,uW,uT,uD,vk⟩):=(O uM).trans ((if_neg Z).trans ((if_neg Q).trans (if_neg I)));clear Z Q I;go_wp2_with fail;go_roundw
    case rel=>exact⟨k+1,by omega,by go_num,by rw[O HN];exact O HY⟩
    case measure=>simp[intOf];omega
  ·have ux:¬ (k:Int)<ts.length:=by omega
   rw[xa (by omega)] at ue;generalize hT:wgT t ts=T at ue;have pK:=U hT;have HY:=U (O ue);clear hT;obtain⟨uS,uR,uU,uV,uW,uT,uD,vk⟩:=T;have c0:wr.cell? (yr w 0)=some (H uS):=(O HY).1 0 _ rfl;obtain⟨y0,z0,q0⟩:=zh (O HY).2.2.1 (j:=0) (by omega);have c1:wr.cell? (yr w 1)=some (H uR):=(O HY).1 1 _ rfl;obtain⟨y1,z1,q1⟩:=zh (O HY).2.2.1 (j:=1) (by omega);have c2:wr.cell? (yr w 2)=some (H uU):=(O HY).1 2 _ rfl;obtain⟨y2,z2,q2⟩:=zh (O HY).2.2.1 (j:=2) (by omega);have c3:wr.cell? (yr w 3)=some (H uV):=(O HY).1 3 _ rfl;obtain⟨y3,z3,q3⟩:=zh (O HY).2.2.1 (j:=3) (by omega);have c4:wr.cell? (yr w 4)=some (H uW):=(O HY).1 4 _ rfl;obtain⟨y4,z4,q4⟩:=zh (O HY).2.2.1 (j:=4) (by omega);have c5:wr.cell? (yr w 5)=some (H uT):=(O HY).1 5 _ rfl;obtain⟨y5,z5,q5⟩:=zh (O HY).2.2.1 (j:=5) (by omega);have c6:wr.cell? (yr w 6)=some (H uD):=(O HY).1 6 _ rfl;obtain⟨y6,z6,q6⟩:=zh (O HY).2.2.1 (j:=6) (by omega);have c7:wr.cell? (yr w 7)=some (H vk):=(O HY).1 7 _ rfl;obtain⟨y7,z7,q7⟩:=zh (O HY).2.2.1 (j:=7) (by omega);have vI:=U (yY wr (w.heap.size+1) 0 [H uS,H uR,H uU,H uV,H uW,H uT,H uD,H vk] (fun j hj=>(O HY).2.2.1 j hj));have oP:=U (zj (w.heap.size+1) (by omega) [H uS,H uR,H uU,H uV,H uW,H uT,H uD,H vk] 0 wr (O HY).2.2.2.1);clear ue;go_wp2_with fail;change bodyPost _ _ _ _ _ (wr.setCells (w.heap.size+1) 0 [H uS,H uR,H uU,H uV,H uW,H uT,H uD,H vk]);generalize wr.setCells (w.heap.size+1) 0 [H uS,H uR,H uU,H uV,H uW,H uT,H uD,H vk]=WE at vI oP |-;obtain⟨d0,d1,d2,d3,d4,d5,d6,d7⟩:=yE (O vI)
   try simp only[Exit.inBlock,Exit.then]
   refine bodyPost_ret (by simp[results,Tryz.results108,go_sem,d0,d1,d2,d3,d4,d5,d6,d7];try rfl) rfl ?_;exact⟨by rw[O pK],O oP⟩
abbrev GRow (W:World)(B:Nat)(v:Value)(gs:List Value):Prop:=W.ownsRow B 32 1 v gs.length gs
theorem infoEvS:(Tryz.prog.info? 32).map (fun i=>(i.zero,i.size,i.bytes))=some (some (.slice none 0 0),1,24):=by kernel_rfl
theorem lV (b:Nat):∀(vs:List Value) (o:Nat) (W:World) (a:Addr),(W.setCells b o vs).frozen? a=W.frozen? a
 | [],_,_,_=>rfl
 | v::r,o,W,a=>by rw[World.setCells,lV b r (o+1),World.frozen?_setCell]
section
variable {C:Nat->Value->Prop} {mb B:Nat} {gv vo:Value} {gs:List Value} {base W W':World} {x:List Bool} {f:Nat->Value}
end
section
variable {C:Nat->Value->Prop} {mb:Nat} {tv:List Value} {base W W':World} {x:List Bool} {f:Nat->Value}
end

theorem iz {B e sz n b:Nat}{v:Value}{xs:List Value}(K:some b≠v.ownBlock):∀(vs:List Value) (o:Nat) (W:World),W.ownsRow B e sz v n xs->(W.setCells b o vs).ownsRow B e sz v n xs
 | [],_,_,h=>h
 | u::us,o,W,h=>by rw[World.setCells];exact iz K us (o+1) _ (zX h K o u)
theorem kind_setC (W:World)(b:Nat){T:TypeId}{y:Nat × Nat}:∀(vs:List Value) (o:Nat) {xt:Array Value},W.heap[b]? = some (.cells xt T y)->∃cur',(W.setCells b o vs).heap[b]? = some (.cells cur' T y):=by
 intro vs
 induction vs generalizing W with
 | nil=>intro o xt h;exact⟨xt,h⟩
 | cons u us ih =>
  intro o xt h;rw[World.setCells];obtain⟨c1,Z⟩:=ez W b o u h;exact ih _ (o+1) Z
theorem os_setCells (b:Nat):∀(vs:List Value) (o:Nat) (W:World),(W.setCells b o vs).os=W.os
 | [],_,_=>rfl
 | u::us,o,W=>by rw[World.setCells,os_setCells b us (o+1)];rfl
theorem tape_setCells (b:Nat):∀(vs:List Value) (o:Nat) (W:World),(W.setCells b o vs).tape=W.tape
 | [],_,_=>rfl
 | u::us,o,W=>by rw[World.setCells,tape_setCells b us (o+1)];rfl
theorem lW (b:Nat):∀(vs:List Value) (o:Nat) (W:World),(W.setCells b o vs).output=W.output
 | [],_,_=>rfl
 | u::us,o,W=>by rw[World.setCells,lW b us (o+1)];rfl
theorem lr (b k:Nat)(E:k≠b):∀(vs:List Value) (o:Nat) (W:World),(W.setCells b o vs).heap[k]? = W.heap[k]?
 | [],_,_=>rfl
 | u::us,o,W=>by rw[World.setCells,lr b k E us (o+1)];exact yT _ _ _ _ E
section
variable {mb B Bo:Nat} {W w':World} {gv:Value} {gs:List Value} {gl:List (List Ev)} {next:Int} {vq:Value} {l:List Od} {t:Tot} {vo:Value} {ts:List Ev}
end

end Go.Proofs.YtkofhemdefffpaaGreatDoor
