/-.-/
import Derived.Test.YtbghmldggahjiaaGreatDoorUj22
set_option linter.unusedVariables false
set_option maxHeartbeats 6400000
set_option maxRecDepth 100000
namespace Go.Proofs.YtbghmldggahjiaaGreatDoor
open Go.RowKit
theorem zi {W:World}{b n j:Nat}(h:W.there b 0 n)(hj:j<n):∃u,W.cell? (U b j)=some u/\W.frozen? (U b j)=false:=by
 obtain⟨D,E⟩:=h j hj;rw[Nat.zero_add] at D E;obtain⟨u,hu⟩:=Option.isSome_iff_exists.1 D;exact⟨u,hu,E⟩
theorem fj {x:List Bool}{n j:Nat}(hx:x.length=n)(hj:j<n):x[j]? = some false\/x[j]? = some true:=by
 rw[yH (by omega)];cases x[j] <;> simp
section
variable {mb B:Nat} {W0 V V':World} {vo:Value} {ts:List Ev} {e:Ev} {p q:Prop}
end
structure Tot where
 gr:Int
 ac:Int
 rf:Int
 tr:Int
 vo:Int
 no:Int
 li:Int
 le:Int
def Tot.vs (t:Tot):List Value:=[H t.gr,H t.ac,H t.rf,H t.tr,H t.vo,H t.no,H t.li,H t.le]
def cntE (t:Tot)(e:Ev):Tot:=
 if e.kind=1 then { t with ac:=wrap64 (t.ac+1) } else if e.kind=2 then { t with rf:=wrap64 (t.rf+1) }
 else if e.kind=3 then { t with tr:=wrap64 (t.tr+1),vo:=wrap64 (t.vo+e.qty),no:=wrap64 (t.no+wrap64 (e.qty*e.price)) } else t
def wgT (t:Tot)(ts:List Ev):Tot:=ts.foldl cntE { t with gr:=wrap64 (t.gr+1) }
theorem wg_step (t:Tot)(ts:List Ev){k:Nat}{e:Ev}(h:ts[k]? = some e):wgT t (ts.take (k+1))=cntE (wgT t (ts.take k)) e:=by
 unfold wgT;rw[List.take_add_one,h,List.foldl_append];rfl
theorem range_set {W:World}{b j:Nat}{cs:List Value}{u:Value}(h:W.rangeAt b 0 cs)(hj:j<cs.length):(W.setCell (U b j) u).rangeAt b 0 (cs.set j u):=by
 intro i v hi;rw[Nat.zero_add]
 by_cases pY:j=i
 ·subst pY;rw[List.getElem?_set_self hj] at hi;cases hi;have:=h j _ (yH hj);rw[Nat.zero_add] at this;exact yM _ _ _ this
 ·rw[yW pY] at hi;have:=h i v hi;rw[Nat.zero_add] at this;exact(yL _ _ _ _ (eu pY)).trans this
theorem keep8 {w W:World}{S:Nat}{cs:List Value}(h:W.rangeAt S 0 cs/\W.there S 0 8/\W.there (S+1) 0 8/\Below S w W/\S+1+1<=W.heap.size)(j:Nat)(hj:j<cs.length)(u:Value):(W.setCell (U S j) u).rangeAt S 0 (cs.set j u)/\(W.setCell (U S j) u).there S 0 8/\(W.setCell (U S j) u).there (S+1) 0 8/\Below S w (W.setCell (U S j) u)/\S+1+1<=(W.setCell (U S j) u).heap.size:=
 ⟨range_set h.1 hj,fK h.2.1,fK h.2.2.1,h.2.2.2.1.setCell (p:=(U S j)) ya _,by simp only[World.setCell,Array.size_modify];exact h.2.2.2.2⟩
theorem ev_cells {W:World}{b o:Nat}{e:Ev}(h:W.rangeAt b o e.vs):W.cell? (U b o)=some (H e.kind)/\W.cell? (U b (o+1))=some (H e.cmd.k)/\W.cell? (U b (o+2))=some (H e.cmd.s)/\W.cell? (U b (o+3))=some (H e.cmd.t)/\W.cell? (U b (o+4))=some (H e.cmd.l)/\W.cell? (U b (o+5))=some (H e.cmd.q)/\W.cell? (U b (o+6))=some (H e.cmd.i)/\W.cell? (U b (o+7))=some (yj e.cmd.p)/\W.cell? (U b (o+8))=some (yk e.cmd.g)/\W.cell? (U b (o+9))=some (H e.id)/\W.cell? (U b (o+10))=some (H e.other)/\W.cell? (U b (o+11))=some (H e.qty)/\W.cell? (U b (o+12))=some (H e.price)/\W.cell? (U b (o+13))=some (H e.reason):=⟨h 0 _ rfl,h 1 _ rfl,h 2 _ rfl,h 3 _ rfl,h 4 _ rfl,h 5 _ rfl,h 6 _ rfl,h 7 _ rfl,h 8 _ rfl,h 9 _ rfl,h 10 _ rfl,h 11 _ rfl,h 12 _ rfl,h 13 _ rfl⟩
theorem withGroup_any (t:Tot)(v:Value)(ts:List Ev)(w:World)(hr:RdR Ev.vs 14 w v ts) :
  Calls Tryz.prog 75 #[.agg #[H t.gr,H t.ac,H t.rf,H t.tr,H t.vo,H t.no,H t.li,H t.le],v] w fun r w'=>r=ym (.agg #[H (wgT t ts).gr,H (wgT t ts).ac,H (wgT t ts).rf,H (wgT t ts).tr,H (wgT t ts).vo,H (wgT t ts).no,H (wgT t ts).li,H (wgT t ts).le])/\yn w w':=by
 obtain⟨a,cap,rfl,xD,hc⟩:=hr
 have xp:∀(k:Nat) (c:Ev),ts[k]? = some c->∃b off,a=some (U b off)/\b<w.heap.size/\w.rangeAt b (off+k*14) c.vs:=by
  intro k c X;obtain⟨b,off,D,E,h3⟩:=hc (by intro h;rw[h] at X;simp at X);exact⟨b,off,D,E,h3 k c X⟩
 have HC:=Q xp;clear xp hc;have hsf:=sfl;have xI:=zh w (J #[H t.gr,H t.ac,H t.rf,H t.tr,H t.vo,H t.no,H t.li,H t.le] 43);have uc:((w.alloc (J #[H t.gr,H t.ac,H t.rf,H t.tr,H t.vo,H t.no,H t.li,H t.le] 43)).alloc (J #[H 0,H 0,H 0,H 0,H 0,H 0,H 0,H 0] 43)).heap.size=w.heap.size+1+1:=by rw[zh,xI]
 have r1:=zo w [H t.gr,H t.ac,H t.rf,H t.tr,H t.vo,H t.no,H t.li,H t.le] 43;have t1:=zT w [H t.gr,H t.ac,H t.rf,H t.tr,H t.vo,H t.no,H t.li,H t.le] 43;have t2:=zT (w.alloc (J #[H t.gr,H t.ac,H t.rf,H t.tr,H t.vo,H t.no,H t.li,H t.le] 43)) [H 0,H 0,H 0,H 0,H 0,H 0,H 0,H 0] 43;rw[xI] at t2;have b1:=lT w (J #[H t.gr,H t.ac,H t.rf,H t.tr,H t.vo,H t.no,H t.li,H t.le] 43);have b2:Below (w.heap.size+1) (w.alloc (J #[H t.gr,H t.ac,H t.rf,H t.tr,H t.vo,H t.no,H t.li,H t.le] 43)) ((w.alloc (J #[H t.gr,H t.ac,H t.rf,H t.tr,H t.vo,H t.no,H t.li,H t.le] 43)).alloc (J #[H 0,H 0,H 0,H 0,H 0,H 0,H 0,H 0] 43)):=(Below.refl _ _).alloc (by omega) _;have HX:Hid (_/\_/\_):=⟨zd r1 b2 (by omega),zl t1 b2 (by omega),t2⟩;have HB:=Q (b1.trans (b2.mono (by omega)));have HS:=Q uc;clear xI uc r1 t1 t2 b1 b2;go_enter Tryz.func75,Tryz.ntmps75;refine lX fun ho xV=>?_;go_wp2_with fail;refine Z xV _ _ ?_;clear xV;generalize ((w.alloc (J #[H t.gr,H t.ac,H t.rf,H t.tr,H t.vo,H t.no,H t.li,H t.le] 43)).alloc (J #[H 0,H 0,H 0,H 0,H 0,H 0,H 0,H 0] 43))=hk at HX HB HS |-;have HX:Hid (hk.rangeAt w.heap.size 0 [H t.gr,H t.ac,H t.rf,H t.tr,H t.vo,H t.no,H t.li,H t.le]/\hk.there w.heap.size 0 8/\hk.there (w.heap.size+1) 0 8):=Z HX;have c0:hk.cell? (yq w 0)=some (H t.gr):=(Z HX).1 0 _ rfl;obtain⟨y0,z0,q0⟩:=zi (Z HX).2.1 (j:=0) (by omega);clear z0 y0;refine lX fun ho xV=>?_;go_wp2_with fail;refine Z xV _ _ ?_;clear xV
 have qO:Hid (World.rangeAt (hk.setCell (yq w 0) (H (wrap64 (t.gr+1)))) w.heap.size 0 (wgT t (ts.take 0)).vs/\World.there (hk.setCell (yq w 0) (H (wrap64 (t.gr+1)))) w.heap.size 0 8/\World.there (hk.setCell (yq w 0) (H (wrap64 (t.gr+1)))) (w.heap.size+1) 0 8/\yn w (hk.setCell (yq w 0) (H (wrap64 (t.gr+1))))/\(hk.setCell (yq w 0) (H (wrap64 (t.gr+1)))).heap.size=w.heap.size+1+1):=by
  refine⟨?_,fK (Z HX).2.1,fK (Z HX).2.2,(Z HB).setCell (p:=(yq w 0)) ya _,by simp[World.setCell];exact Z HS⟩;intro j u hj;rw[Nat.zero_add]
  match j,hj with
  | 0,hj=>cases hj;exact yM _ _ _ c0
  | 1,hj=>cases hj;exact(yL _ _ _ _ (eu (by omega))).trans ((Z HX).1 1 _ rfl)
  | 2,hj=>cases hj;exact(yL _ _ _ _ (eu (by omega))).trans ((Z HX).1 2 _ rfl)
  | 3,hj=>cases hj;exact(yL _ _ _ _ (eu (by omega))).trans ((Z HX).1 3 _ rfl)
  | 4,hj=>cases hj;exact(yL _ _ _ _ (eu (by omega))).trans ((Z HX).1 4 _ rfl)
  | 5,hj=>cases hj;exact(yL _ _ _ _ (eu (by omega))).trans ((Z HX).1 5 _ rfl)
  | 6,hj=>cases hj;exact(yL _ _ _ _ (eu (by omega))).trans ((Z HX).1 6 _ rfl)
  | 7,hj=>cases hj;exact(yL _ _ _ _ (eu (by omega))).trans ((Z HX).1 7 _ rfl)
  | j+8,hj=>simp[Tot.vs] at hj
 have HSU:Hid (_/\_/\_/\_/\_):=⟨(Z qO).1,(Z qO).2.1,(Z qO).2.2.1,(Z qO).2.2.2.1,Nat.le_of_eq (Z qO).2.2.2.2.symm⟩;generalize (hk.setCell (yq w 0) (H (wrap64 (t.gr+1))))=X1 at qO HSU |-;clear c0 q0 HX HB HS qO;go_wp2_with fail;go_loopw [13] (fun iv wr=>∃(k:Nat),k<=ts.length/\iv=H k/\Hid (wr.rangeAt w.heap.size 0 (wgT t (ts.take k)).vs/\wr.there w.heap.size 0 8/\wr.there (w.heap.size+1) 0 8/\yn w wr/\w.heap.size+1+1<=wr.heap.size)) (fun iv _=>ts.length-(intOf iv).toNat)
 case atStart=>exact⟨0,Nat.zero_le _,rfl,Z HSU⟩
 case round =>
  obtain⟨k,X,rfl,vf⟩:=hrel
  by_cases xH:k<ts.length
  ·obtain⟨e,hke⟩:∃e,ts[k]? = some e:=⟨_,yH xH⟩;obtain⟨b,off,rfl,A,xm⟩:=Z HC k e hke;have vn:=Q (wg_step t ts hke);have uq:(k:Int)<ts.length:=by omega
   have hse:=(Z vf).2.2.2.2;obtain⟨g0,g1,g2,g3,g4,g5,g6,g7,g8,g9,oi,jU,qh,oZ⟩:=ev_cells (zd xm (Z vf).2.2.2.1 A);have kV:=lT wr (J (yv e.kind e.cmd.k e.cmd.s e.cmd.t e.cmd.l e.cmd.q e.cmd.i e.cmd.p e.cmd.g e.id e.other e.qty e.price e.reason).toArray 89);have HY:Hid (World.rangeAt (wr.alloc (J (yv e.kind e.cmd.k e.cmd.s e.cmd.t e.cmd.l e.cmd.q e.cmd.i e.cmd.p e.cmd.g e.id e.other e.qty e.price e.reason).toArray 89)) w.heap.size 0 (wgT t (ts.take k)).vs/\World.there (wr.alloc (J (yv e.kind e.cmd.k e.cmd.s e.cmd.t e.cmd.l e.cmd.q e.cmd.i e.cmd.p e.cmd.g e.id e.other e.qty e.price e.reason).toArray 89)) w.heap.size 0 8/\World.there (wr.alloc (J (yv e.kind e.cmd.k e.cmd.s e.cmd.t e.cmd.l e.cmd.q e.cmd.i e.cmd.p e.cmd.g e.id e.other e.qty e.price e.reason).toArray 89)) (w.heap.size+1) 0 8/\yn w (wr.alloc (J (yv e.kind e.cmd.k e.cmd.s e.cmd.t e.cmd.l e.cmd.q e.cmd.i e.cmd.p e.cmd.g e.id e.other e.qty e.price e.reason).toArray 89))/\w.heap.size+1+1<=(wr.alloc (J (yv e.kind e.cmd.k e.cmd.s e.cmd.t e.cmd.l e.cmd.q e.cmd.i e.cmd.p e.cmd.g e.id e.other e.qty e.price e.reason).toArray 89)).heap.size):=⟨zd (Z vf).1 kV (by omega),zl (Z vf).2.1 kV (by omega),zl (Z vf).2.2.1 kV (by omega),(Z vf).2.2.2.1.trans (kV.mono (by omega)),yN hse kV.size⟩;generalize wgT t (ts.take k)=T at vn HY;obtain⟨qH,qG,qJ,qK,qL,qI,uY,qD⟩:=T;have xy:w.heap.size≠wr.heap.size:=by omega
   have hne':wr.heap.size≠w.heap.size:=by omega
   have d0:(wr.alloc (J (yv e.kind e.cmd.k e.cmd.s e.cmd.t e.cmd.l e.cmd.q e.cmd.i e.cmd.p e.cmd.g e.id e.other e.qty e.price e.reason).toArray 89)).cell? (yq w 0)=some (H qH):=(Z HY).1 0 _ rfl;have p0:(wr.alloc (J (yv e.kind e.cmd.k e.cmd.s e.cmd.t e.cmd.l e.cmd.q e.cmd.i e.cmd.p e.cmd.g e.id e.other e.qty e.price e.reason).toArray 89)).frozen? (yq w 0)=false:=by have:=((Z HY).2.1 0 (by omega)).2;rwa[Nat.zero_add] at this
   have d1:(wr.alloc (J (yv e.kind e.cmd.k e.cmd.s e.cmd.t e.cmd.l e.cmd.q e.cmd.i e.cmd.p e.cmd.g e.id e.other e.qty e.price e.reason).toArray 89)).cell? (yq w 1)=some (H qG):=(Z HY).1 1 _ rfl;have p1:(wr.alloc (J (yv e.kind e.cmd.k e.cmd.s e.cmd.t e.cmd.l e.cmd.q e.cmd.i e.cmd.p e.cmd.g e.id e.other e.qty e.price e.reason).toArray 89)).frozen? (yq w 1)=false:=by have:=((Z HY).2.1 1 (by omega)).2;rwa[Nat.zero_add] at this
   have d2:(wr.alloc (J (yv e.kind e.cmd.k e.cmd.s e.cmd.t e.cmd.l e.cmd.q e.cmd.i e.cmd.p e.cmd.g e.id e.other e.qty e.price e.reason).toArray 89)).cell? (yq w 2)=some (H qJ):=(Z HY).1 2 _ rfl;have p2:(wr.alloc (J (yv e.kind e.cmd.k e.cmd.s e.cmd.t e.cmd.l e.cmd.q e.cmd.i e.cmd.p e.cmd.g e.id e.other e.qty e.price e.reason).toArray 89)).frozen? (yq w 2)=false:=by have:=((Z HY).2.1 2 (by omega)).2;rwa[Nat.zero_add] at this
   have d3:(wr.alloc (J (yv e.kind e.cmd.k e.cmd.s e.cmd.t e.cmd.l e.cmd.q e.cmd.i e.cmd.p e.cmd.g e.id e.other e.qty e.price e.reason).toArray 89)).cell? (yq w 3)=some (H qK):=(Z HY).1 3 _ rfl;have p3:(wr.alloc (J (yv e.kind e.cmd.k e.cmd.s e.cmd.t e.cmd.l e.cmd.q e.cmd.i e.cmd.p e.cmd.g e.id e.other e.qty e.price e.reason).toArray 89)).frozen? (yq w 3)=false:=by have:=((Z HY).2.1 3 (by omega)).2;rwa[Nat.zero_add] at this
   have d4:(wr.alloc (J (yv e.kind e.cmd.k e.cmd.s e.cmd.t e.cmd.l e.cmd.q e.cmd.i e.cmd.p e.cmd.g e.id e.other e.qty e.price e.reason).toArray 89)).cell? (yq w 4)=some (H qL):=(Z HY).1 4 _ rfl;have p4:(wr.alloc (J (yv e.kind e.cmd.k e.cmd.s e.cmd.t e.cmd.l e.cmd.q e.cmd.i e.cmd.p e.cmd.g e.id e.other e.qty e.price e.reason).toArray 89)).frozen? (yq w 4)=false:=by have:=((Z HY).2.1 4 (by omega)).2;rwa[Nat.zero_add] at this
   have d5:(wr.alloc (J (yv e.kind e.cmd.k e.cmd.s e.cmd.t e.cmd.l e.cmd.q e.cmd.i e.cmd.p e.cmd.g e.id e.other e.qty e.price e.reason).toArray 89)).cell? (yq w 5)=some (H qI):=(Z HY).1 5 _ rfl;have p5:(wr.alloc (J (yv e.kind e.cmd.k e.cmd.s e.cmd.t e.cmd.l e.cmd.q e.cmd.i e.cmd.p e.cmd.g e.id e.other e.qty e.price e.reason).toArray 89)).frozen? (yq w 5)=false:=by have:=((Z HY).2.1 5 (by omega)).2;rwa[Nat.zero_add] at this
   have d6:(wr.alloc (J (yv e.kind e.cmd.k e.cmd.s e.cmd.t e.cmd.l e.cmd.q e.cmd.i e.cmd.p e.cmd.g e.id e.other e.qty e.price e.reason).toArray 89)).cell? (yq w 6)=some (H uY):=(Z HY).1 6 _ rfl;have p6:(wr.alloc (J (yv e.kind e.cmd.k e.cmd.s e.cmd.t e.cmd.l e.cmd.q e.cmd.i e.cmd.p e.cmd.g e.id e.other e.qty e.price e.reason).toArray 89)).frozen? (yq w 6)=false:=by have:=((Z HY).2.1 6 (by omega)).2;rwa[Nat.zero_add] at this
   have d7:(wr.alloc (J (yv e.kind e.cmd.k e.cmd.s e.cmd.t e.cmd.l e.cmd.q e.cmd.i e.cmd.p e.cmd.g e.id e.other e.qty e.price e.reason).toArray 89)).cell? (yq w 7)=some (H qD):=(Z HY).1 7 _ rfl;have p7:(wr.alloc (J (yv e.kind e.cmd.k e.cmd.s e.cmd.t e.cmd.l e.cmd.q e.cmd.i e.cmd.p e.cmd.g e.id e.other e.qty e.price e.reason).toArray 89)).frozen? (yq w 7)=false:=by have:=((Z HY).2.1 7 (by omega)).2;rwa[Nat.zero_add] at this
   clear hke xm A kV
   by_cases D:e.kind=1
   ·have b1:(e.kind==1)=true:=by simpa using D
    have HN:Hid (wgT t (ts.take (k+1))=⟨qH,wrap64 (qG+1),qJ,qK,qL,qI,uY,qD⟩):=(Z vn).trans (if_pos D);clear D;go_wp2_with fail;go_roundw
    case rel=>exact⟨k+1,by omega,by go_num,by rw[Z HN];exact keep8 (Z HY) 1 (by simp[Tot.vs]) _⟩
    case measure=>simp[intOf];omega
   have b1:(e.kind==1)=false:=by rw[xd];exact D
   by_cases E:e.kind=2
   ·have b2:(e.kind==2)=true:=by simpa using E
    have HN:Hid (wgT t (ts.take (k+1))=⟨qH,qG,wrap64 (qJ+1),qK,qL,qI,uY,qD⟩):=(Z vn).trans ((if_neg D).trans (if_pos E));clear D E;go_wp2_with fail;go_roundw
    case rel=>exact⟨k+1,by omega,by go_num,by rw[Z HN];exact keep8 (Z HY) 2 (by simp[Tot.vs]) _⟩
    case measure=>simp[intOf];omega
   have b2:(e.kind==2)=false:=by rw[xd];exact E
   by_cases h3:e.kind=3
   ·have b3:(e.kind==3)=true:=by simpa using h3
    have HN:Hid (wgT t (ts.take (k+1))=⟨qH,qG,qJ,wrap64 (qK+1),wrap64 (qL+e.qty),wrap64 (qI+wrap64 (e.qty*e.price)),uY,qD⟩):=(Z vn).trans ((if_neg D).trans ((if_neg E).trans (if_pos h3)));clear D E h3;go_wp2_with fail;go_roundw
    case rel=>exact⟨k+1,by omega,by go_num,by rw[Z HN];exact keep8 (keep8 (keep8 (Z HY) 3 (by simp[Tot.vs]) _) 4 (by simp[Tot.vs]) _) 5 (by simp[Tot.vs]) _⟩
    case measure=>simp[intOf];omega
   ·have b3:(e.kind==3)=false:=by rw[xd];exact h3
    have HN:Hid (wgT t (ts.take (k+1))=⟨qH,qG,qJ,qK,qL,qI,uY,qD⟩):=(Z vn).trans ((if_neg D).trans ((if_neg E).trans (if_neg h3)));clear D E h3;go_wp2_with fail;go_roundw
    case rel=>exact⟨k+1,by omega,by go_num,by rw[Z HN];exact Z HY⟩
    case measure=>simp[intOf];omega
  ·have uq:¬ (k:Int)<ts.length:=by omega
   rw[yZ (by omega)] at vf;generalize hT:wgT t ts=T at vf;have ps:=Q hT;have HY:=Q (Z vf);clear hT;obtain⟨qH,qG,qJ,qK,qL,qI,uY,qD⟩:=T;have c0:wr.cell? (yq w 0)=some (H qH):=(Z HY).1 0 _ rfl;obtain⟨y0,z0,q0⟩:=zi (Z HY).2.2.1 (j:=0) (by omega);have c1:wr.cell? (yq w 1)=some (H qG):=(Z HY).1 1 _ rfl;obtain⟨y1,z1,q1⟩:=zi (Z HY).2.2.1 (j:=1) (by omega);have c2:wr.cell? (yq w 2)=some (H qJ):=(Z HY).1 2 _ rfl;obtain⟨y2,z2,q2⟩:=zi (Z HY).2.2.1 (j:=2) (by omega);have c3:wr.cell? (yq w 3)=some (H qK):=(Z HY).1 3 _ rfl;obtain⟨y3,z3,q3⟩:=zi (Z HY).2.2.1 (j:=3) (by omega);have c4:wr.cell? (yq w 4)=some (H qL):=(Z HY).1 4 _ rfl;obtain⟨y4,z4,q4⟩:=zi (Z HY).2.2.1 (j:=4) (by omega);have c5:wr.cell? (yq w 5)=some (H qI):=(Z HY).1 5 _ rfl;obtain⟨y5,z5,q5⟩:=zi (Z HY).2.2.1 (j:=5) (by omega);have c6:wr.cell? (yq w 6)=some (H uY):=(Z HY).1 6 _ rfl;obtain⟨y6,z6,q6⟩:=zi (Z HY).2.2.1 (j:=6) (by omega);have c7:wr.cell? (yq w 7)=some (H qD):=(Z HY).1 7 _ rfl;obtain⟨y7,z7,q7⟩:=zi (Z HY).2.2.1 (j:=7) (by omega);have ki:=Q (yX wr (w.heap.size+1) 0 [H qH,H qG,H qJ,H qK,H qL,H qI,H uY,H qD] (fun j hj=>(Z HY).2.2.1 j hj));have cM:=Q (zg (w.heap.size+1) (by omega) [H qH,H qG,H qJ,H qK,H qL,H qI,H uY,H qD] 0 wr (Z HY).2.2.2.1);clear vf;go_wp2_with fail;change bodyPost _ _ _ _ _ (wr.setCells (w.heap.size+1) 0 [H qH,H qG,H qJ,H qK,H qL,H qI,H uY,H qD]);generalize wr.setCells (w.heap.size+1) 0 [H qH,H qG,H qJ,H qK,H qL,H qI,H uY,H qD]=WE at ki cM |-;obtain⟨d0,d1,d2,d3,d4,d5,d6,d7⟩:=yD (Z ki)
   try simp only[Exit.inBlock,Exit.then]
   refine bodyPost_ret (by simp[results,Tryz.results75,go_sem,d0,d1,d2,d3,d4,d5,d6,d7];try rfl) rfl ?_;exact⟨by rw[Z ps],Z cM⟩
section
variable {C:Nat->Value->Prop} {mb B:Nat} {gv vo:Value} {gs:List Value} {base W W':World} {x:List Bool} {f:Nat->Value}
end
section
variable {C:Nat->Value->Prop} {mb:Nat} {tv:List Value} {base W W':World} {x:List Bool} {f:Nat->Value}
end
section
variable {mb B Bo:Nat} {W w':World} {gv:Value} {gs:List Value} {gl:List (List Ev)} {next:Int} {vq:Value} {l:List Od} {t:Tot} {vo:Value} {ts:List Ev}
end
structure RW (C:Nat->Value->Prop) (n:Nat) (T:World->World) (base:World) (x:List Bool) (f:Nat->Value) (W:World):Prop where
 c:∀j,x[j]? = some true->C j (f j)
 b:x[n]? = some false->Below base.heap.size base W
 m:x[n]? = some true->∃V,Below base.heap.size base V/\W=T V
def RWA (yl:(Nat->Value)->Act)(C:Nat->Value->Prop)(n:Nat)(T:World->World)(base:World)(x:List Bool)(hb:Act)(W:World):Prop:=∃f,hb=yl f/\RW C n T base x f W
section
variable {C:Nat->Value->Prop} {n:Nat} {T:World->World} {base W W':World} {x:List Bool} {f:Nat->Value}
theorem zW (h:RW C n T base x f W)(i:Nat)(v:Value)(hv:C i v)(hn:i≠n):RW C n T base (x.set i true) (upd f i v) W:=by
 refine⟨zD h.c hv,?_,?_⟩ <;> rw[gq hn]
 ·exact h.b
 ·exact h.m
theorem im (h:RW C n T base x f W)(hn:x[n]? = some false)(A:yn W W'):RW C n T base x f W':=
 ⟨h.c,fun e=>(h.b e).trans (A.mono (h.b e).size),fun e=>by rw[hn] at e;cases e⟩
theorem rw_last (h:RW C n T base x f W)(hn:x[n]? = some false)(hc:∀j,j=n->x[j]? = some false->C j (f j)):RW C n T base (x.set n true) f (T W):=by
 refine⟨fun j hj=>?_,?_,fun _=>⟨W,h.b hn,rfl⟩⟩
 ·by_cases hji:j=n
  ·exact hc j hji (by rw[hji];exact hn)
  ·rw[gq (fun e=>hji e.symm)] at hj;exact h.c j hj
 ·intro e;rw[gqs hn] at e;cases e
end
theorem rw_lastv {C:Nat->Value->Prop}{n:Nat}{T:World->World}{base W:World}{x:List Bool}{f:Nat->Value}(h:RW C n T base x f W)(hn:x[n]? = some false){v:Value}(hv:C n v):RW C n T base (x.set n true) (upd f n v) (T W):=by
 refine⟨zD h.c hv,?_,fun _=>⟨W,h.b hn,rfl⟩⟩;intro e;rw[gqs hn] at e;cases e
def CVw (vs:List (Option Value))(P:Nat->Prop)(j:Nat)(v:Value):Prop:=(∀u,vs[j]? = some (some u)->v=u)/\P j


def ndy (o:Od):Bool:=!(o.life==1)
def dyB (o:Od):Bool:=o.life==1
def expE (o:Od):Ev:=⟨9,zCm,o.id,0,o.left,0,0⟩

def ancS (l:List Oper)(s:List Nat):List Nat:=s++s.flatMap fun i=>match l[i]? with
 | some o=>(o.after.toList.filter fun e=>Region.binds .any e).map fun e=>e.on
 | none=>[]
def ancN (l:List Oper):Nat->List Nat->List Nat
 | 0,s=>s
 | n+1,s=>ancN l n (ancS l s).eraseDups
theorem ancS_true {l:List Oper}{x:List Bool}(hc:Closed l x){s:List Nat}(hs:∀i∈s,x[i]? = some true):∀i∈ancS l s,x[i]? = some true:=by
 intro i hi;rcases List.mem_append.1 hi with h|h
 ·exact hs i h
 ·obtain⟨k,X,hm⟩:=List.mem_flatMap.1 h;split at hm
  ·next o K =>
   obtain⟨e,he,rfl⟩:=List.mem_map.1 hm;obtain⟨he1,he2⟩:=List.mem_filter.1 he;exact hc k o K (hs k X) e (by simpa using he1) he2
  ·simp at hm
theorem ancN_true {l:List Oper}{x:List Bool}(hc:Closed l x):∀(n:Nat) (s:List Nat),(∀i∈s,x[i]? = some true)->∀i∈ancN l n s,x[i]? = some true
 | 0,s,hs=>hs
 | n+1,s,hs=>ancN_true hc n _ (fun i hi=>ancS_true hc hs i (List.mem_eraseDups.1 hi))
theorem dV {l:List Oper}{x:List Bool}(hc:Closed l x)(d i n:Nat)(hB:(ancN l d [n]).contains i=true)(hx:x.length=l.length)(hn:n<l.length)(hi:x[i]? = some false):x[n]? = some false:=by
 rcases fj hx hn with h|h
 ·exact h
 ·have:=ancN_true hc d [n] (by simpa using h) i (by simpa using hB);rw[hi] at this;cases this
section
variable {C:World->Nat->Value->Prop} {n:Nat} {yc:(Nat->Value)->World->Prop} {base W W':World} {x:List Bool} {f:Nat->Value}
end
section
variable {C:World->Nat->Value->Prop} {R m st:Nat} {Rv:(Nat->Value)->List Value} {base W W':World} {x:List Bool} {f:Nat->Value}
end
def accL (c:Cm)(next:Int)(yl:List Od × Int × List Ev):List Od:=if 0<yl.2.1/\dP c.t=true then yl.1 ++ [⟨next,c.s,tk c.p,yl.2.1,c.l,c.g⟩] else yl.1
def accE (c:Cm)(next:Int)(yl:List Od × Int × List Ev):List Ev:=⟨1,⟨1,c.s,c.t,c.l,c.q,0,c.p,c.g⟩,next,0,0,0,0⟩::yl.2.2++(if 0<yl.2.1 then[⟨if dP c.t=true then 4 else 5,zCm,next,0,yl.2.1,0,0⟩] else[])
theorem rowE_mono {B C e sz n:Nat}{v:Value}{xs:List Value}{W:World}(h:W.ownsRow B e sz v n xs)(hC:C<=B):W.ownsRow C e sz v n xs:=by
 refine⟨h.1,?_⟩;rcases h.2 with hn|⟨g,cap,xr,rfl,M,rest⟩
 ·exact .inl hn
 ·exact .inr ⟨g,cap,xr,rfl,yN hC M,rest⟩

def stN (next:Int)(l:List Od)(c:Cm):Int:=if refR next l c=0/\c.k=1 then next+1 else next
def stL (next:Int)(l:List Od)(c:Cm):List Od:=
 if refR next l c=0 then
  if c.k=1 then accL c next (matL c next 21 l c.q [])
  else if c.k=2 then(match l[(plc l c.i).toNat]? with|some o=>dL l (plc l c.i).toNat o o.left|none=>l)
  else if c.k=3 then(match l[(plc l c.i).toNat]? with|some o=>l.set (plc l c.i).toNat { o with left:=c.q } | none=>l)
  else l.filter ndy
 else l
def stE (next:Int)(l:List Od)(c:Cm):List Ev:=
 if refR next l c=0 then
  if c.k=1 then accE c next (matL c next 21 l c.q [])
  else if c.k=2 then(match l[(plc l c.i).toNat]? with|some o=>[⟨6,zCm,c.i,0,o.left,0,0⟩]|none=>[])
  else if c.k=3 then[⟨7,zCm,c.i,0,c.q,0,0⟩]
  else⟨8,zCm,0,0,((l.filter dyB).length:Nat),0,0⟩::(l.filter dyB).map expE
 else[⟨2,⟨c.k,c.s,c.t,c.l,c.q,c.i,c.p,cutB c.g⟩,0,0,0,0,refR next l c⟩]
theorem ref_new {next:Int}{l:List Od}{c:Cm}(h:refR next l c=0)(X:c.k=1):newR next l c=0:=by
 rw[refR,if_pos X] at h;split at h
 ·exact h
 ·cases h
theorem ref_newq {next:Int}{l:List Od}{c:Cm}(h:refR next l c=0)(X:c.k=1):1<=c.q/\c.q<=1000000:=by
 have h:=ref_new h X;rw[newR] at h
 repeat (split at h;(· cases h))
 rename_i h7 _;simp[betB] at h7;omega
theorem ref_id {next:Int}{l:List Od}{c:Cm}(h:refR next l c=0)(X:c.k=2\/c.k=3):∃(k:Nat) (o:Od),plc l c.i=k/\l[k]? = some o:=by
 rcases iZ l c.i with D|D
 ·exfalso;rw[refR] at h;rcases X with X|X
  ·rw[if_neg (by omega),if_pos X] at h;split at h
   ·simp[idR,D] at h
   ·cases h
  ·rw[if_neg (by omega),if_neg (by omega),if_pos X] at h;split at h
   ·rw[redR] at h;split at h
    ·simp[D] at h
    ·cases h
   ·cases h
 ·exact D
end Go.Proofs.YtbghmldggahjiaaGreatDoor
