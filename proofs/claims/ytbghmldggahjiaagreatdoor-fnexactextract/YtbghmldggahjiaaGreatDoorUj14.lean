/-.-/
import Derived.Test.YtbghmldggahjiaaGreatDoorUj07
import Derived.Test.YtbghmldggahjiaaGreatDoorUj13
import Derived.StillTailTactics
set_option linter.unusedVariables false
set_option maxHeartbeats 6400000
set_option maxRecDepth 100000
namespace Go.Proofs.YtbghmldggahjiaaGreatDoor
open Go.RowKit
theorem lz (next:Int)(v:Value)(l:List Od)(w:World)(hr:RdR Od.vs 6 w v l)(hn:l.length<=20)(hl:∀o'∈l,0<=o'.left/\o'.left<=1000000) :
  Calls Tryz.prog 77 #[.agg #[H next,v],H 1] w fun e w' =>
   ∃b,e=ym (fo b)/\dQ 249 true w' b 1 (zB l 1)/\w.heap.size<=b/\yn w w':=by
 have HR:=Q hr;have HL:=Q hl;obtain⟨a,cap,rfl,xD,hc⟩:=hr;have xI:=zh w (J #[H next,.slice a l.length cap] 41);have r1:=zo (w.alloc (J #[H next,.slice a l.length cap] 41)) [.nilFunc,.nilFunc,.nilFunc] 133;have t1:=gD (n:=3) (heap_alloc_new (w.alloc (J #[H next,.slice a l.length cap] 41)) (J #[.nilFunc,.nilFunc,.nilFunc] 133)) (by simp);rw[xI] at r1 t1;have uc:((w.alloc (J #[H next,.slice a l.length cap] 41)).alloc (J #[.nilFunc,.nilFunc,.nilFunc] 133)).heap.size=w.heap.size+1+1:=by rw[zh,xI]
 have qe:Hid (yn w ((w.alloc (J #[H next,.slice a l.length cap] 41)).alloc (J #[.nilFunc,.nilFunc,.nilFunc] 133))):=
  (lT _ _).alloc (by rw[xI];omega) _
 have HX:Hid (_/\_):=⟨r1,t1⟩;have vL:=Q uc;clear r1 t1 xI uc hc hl;go_enter Tryz.func77,Tryz.ntmps77;go_wp2_with fail;generalize ((w.alloc (J #[H next,.slice a l.length cap] 41)).alloc (J #[.nilFunc,.nilFunc,.nilFunc] 133))=W2 at qe HX vL |-;refine(plant_b _ l 1 W2 (zq (Z HR) (Z qe) ya) hn (Z HL)).mono ?_;rintro e w1 ⟨rfl,htr,xR⟩;have aE:=Q htr;have ud:=Q xR;clear htr xR;go_wp2_with fail;refine(ask_b W2.heap.size w1).mono ?_;rintro e w2 ⟨rfl,xE⟩;have bW:=Q (zH (Z aE) (xE.block _ (zZ (Z aE))));have vy:=(Z ud).trans (xE.mono (Z ud).size);obtain⟨x1,x2⟩:=Z HX;have y1:=zd x1 vy (by rw[Z vL];omega);have y2:=zl x2 vy (by rw[Z vL];omega);have xq:=Q (lW (Z qe) vy);have c0:w2.cell? (U (w.heap.size+1) 0)=some .nilFunc:=y1 0 _ rfl;have c1:w2.cell? (U (w.heap.size+1) 1)=some .nilFunc:=y1 1 _ rfl;have c2:w2.cell? (U (w.heap.size+1) 2)=some .nilFunc:=y1 2 _ rfl;have f0:w2.frozen? (U (w.heap.size+1) 0)=false:=(y2 0 (by omega)).2;have f1:w2.frozen? (U (w.heap.size+1) 1)=false:=(y2 1 (by omega)).2;have f2:w2.frozen? (U (w.heap.size+1) 2)=false:=(y2 2 (by omega)).2;clear xE vy x1 x2 y1 y2;unfold fo;generalize hF0:Value.func (.func 156) #[yp W2 0] #[]=F0;generalize hF1:Value.func (.func 157) #[yp W2 0] #[]=F1;generalize hF2:Value.func (.func 158) #[yp W2 0] #[]=F2
 have pK:∀(W:World) (o:Nat) (m:Mode),((store (U (w.heap.size+1) o) F0 m).run Tryz.prog W=stored Tryz.prog W (U (w.heap.size+1) o) F0 m)/\((store (U (w.heap.size+1) o) F1 m).run Tryz.prog W=stored Tryz.prog W (U (w.heap.size+1) o) F1 m)/\((store (U (w.heap.size+1) o) F2 m).run Tryz.prog W=stored Tryz.prog W (U (w.heap.size+1) o) F2 m):=fun W o m=>by
  subst hF0 hF1 hF2;exact⟨run_store _ W _ _ m rfl,run_store _ W _ _ m rfl,run_store _ W _ _ m rfl⟩
 have hst0:=fun W o m=>(pK W o m).1;have hst1:=fun W o m=>(pK W o m).2.1;have hst2:=fun W o m=>(pK W o m).2.2;clear pK;go_wp2_with fail;have hn01:((U (w.heap.size+1) 0):Addr)≠(U (w.heap.size+1) 1):=fun e=>by simp at e
 have hn02:((U (w.heap.size+1) 0):Addr)≠(U (w.heap.size+1) 2):=fun e=>by simp at e
 have hn12:((U (w.heap.size+1) 1):Addr)≠(U (w.heap.size+1) 2):=fun e=>by simp at e
 have d2:(((w2.setCell (U (w.heap.size+1) 0) F0).setCell (U (w.heap.size+1) 1) F1).setCell (U (w.heap.size+1) 2) F2).cell? (U (w.heap.size+1) 2)=some F2:=
  yM _ _ _ ((yL _ _ _ _ hn12).trans ((yL _ _ _ _ hn02).trans c2))
 have d1:(((w2.setCell (U (w.heap.size+1) 0) F0).setCell (U (w.heap.size+1) 1) F1).setCell (U (w.heap.size+1) 2) F2).cell? (U (w.heap.size+1) 1)=some F1:=
  (yL _ _ _ _ hn12.symm).trans (yM _ _ _ ((yL _ _ _ _ hn01).trans c1))
 have d0:(((w2.setCell (U (w.heap.size+1) 0) F0).setCell (U (w.heap.size+1) 1) F1).setCell (U (w.heap.size+1) 2) F2).cell? (U (w.heap.size+1) 0)=some F0:=
  (yL _ _ _ _ hn02.symm).trans ((yL _ _ _ _ hn01.symm).trans (yM _ _ _ c0))
 have xy:W2.heap.size≠w.heap.size+1:=by rw[Z vL];omega
 have HT5:=Q (zH (Z bW) (w':=((w2.setCell (U (w.heap.size+1) 0) F0).setCell (U (w.heap.size+1) 1) F1).setCell (U (w.heap.size+1) 2) F2) ((yS _ _ _ _ xy).trans ((yS _ _ _ _ xy).trans (yS _ _ _ _ xy))));have uT:=Q ((((Z xq).setCell (p:=(U (w.heap.size+1) 0)) (by simp) F0).setCell (p:=(U (w.heap.size+1) 1)) (by simp) F1).setCell (p:=(U (w.heap.size+1) 2)) (by simp) F2);generalize ((w2.setCell (U (w.heap.size+1) 0) F0).setCell (U (w.heap.size+1) 1) F1).setCell (U (w.heap.size+1) 2) F2=W5 at *
 try simp only[Exit.inBlock,Exit.then]
 refine bodyPost_ret (by simp[results,Tryz.results77,go_sem,d0,d1,d2];try rfl) rfl ?_;refine⟨W2.heap.size,?_,Z HT5,by rw[Z vL];omega,Z uT⟩;subst hF0 hF1 hF2;rfl
theorem ln (next:Int)(sd:Int)(vh:¬ sd=1)(v:Value)(l:List Od)(w:World)(hr:RdR Od.vs 6 w v l)(hn:l.length<=20)(hl:∀o'∈l,0<=o'.left/\o'.left<=1000000) :
  Calls Tryz.prog 77 #[.agg #[H next,v],H sd] w fun e w' =>
   ∃b,e=ym (fq b)/\dQ 252 false w' b sd (zB l sd)/\w.heap.size<=b/\yn w w':=by
 have HR:=Q hr;have HL:=Q hl;obtain⟨a,cap,rfl,xD,hc⟩:=hr;have xI:=zh w (J #[H next,.slice a l.length cap] 41);have r1:=zo (w.alloc (J #[H next,.slice a l.length cap] 41)) [.nilFunc,.nilFunc,.nilFunc] 133;have t1:=gD (n:=3) (heap_alloc_new (w.alloc (J #[H next,.slice a l.length cap] 41)) (J #[.nilFunc,.nilFunc,.nilFunc] 133)) (by simp);rw[xI] at r1 t1;have uc:((w.alloc (J #[H next,.slice a l.length cap] 41)).alloc (J #[.nilFunc,.nilFunc,.nilFunc] 133)).heap.size=w.heap.size+1+1:=by rw[zh,xI]
 have qe:Hid (yn w ((w.alloc (J #[H next,.slice a l.length cap] 41)).alloc (J #[.nilFunc,.nilFunc,.nilFunc] 133))):=
  (lT _ _).alloc (by rw[xI];omega) _
 have HX:Hid (_/\_):=⟨r1,t1⟩;have vL:=Q uc;clear r1 t1 xI uc hc hl;go_enter Tryz.func77,Tryz.ntmps77;go_wp2_with fail;generalize ((w.alloc (J #[H next,.slice a l.length cap] 41)).alloc (J #[.nilFunc,.nilFunc,.nilFunc] 133))=W2 at qe HX vL |-;refine(plant_s _ l sd W2 (zq (Z HR) (Z qe) ya) hn (Z HL)).mono ?_;rintro e w1 ⟨rfl,htr,xR⟩;have aE:=Q htr;have ud:=Q xR;clear htr xR;go_wp2_with fail;refine(ask_s W2.heap.size w1).mono ?_;rintro e w2 ⟨rfl,xE⟩;have bW:=Q (zH (Z aE) (xE.block _ (zZ (Z aE))));have vy:=(Z ud).trans (xE.mono (Z ud).size);obtain⟨x1,x2⟩:=Z HX;have y1:=zd x1 vy (by rw[Z vL];omega);have y2:=zl x2 vy (by rw[Z vL];omega);have xq:=Q (lW (Z qe) vy);have c0:w2.cell? (U (w.heap.size+1) 0)=some .nilFunc:=y1 0 _ rfl;have c1:w2.cell? (U (w.heap.size+1) 1)=some .nilFunc:=y1 1 _ rfl;have c2:w2.cell? (U (w.heap.size+1) 2)=some .nilFunc:=y1 2 _ rfl;have f0:w2.frozen? (U (w.heap.size+1) 0)=false:=(y2 0 (by omega)).2;have f1:w2.frozen? (U (w.heap.size+1) 1)=false:=(y2 1 (by omega)).2;have f2:w2.frozen? (U (w.heap.size+1) 2)=false:=(y2 2 (by omega)).2;clear xE vy x1 x2 y1 y2;unfold fq;generalize hF0:Value.func (.func 160) #[yp W2 0] #[]=F0;generalize hF1:Value.func (.func 161) #[yp W2 0] #[]=F1;generalize hF2:Value.func (.func 162) #[yp W2 0] #[]=F2
 have pK:∀(W:World) (o:Nat) (m:Mode),((store (U (w.heap.size+1) o) F0 m).run Tryz.prog W=stored Tryz.prog W (U (w.heap.size+1) o) F0 m)/\((store (U (w.heap.size+1) o) F1 m).run Tryz.prog W=stored Tryz.prog W (U (w.heap.size+1) o) F1 m)/\((store (U (w.heap.size+1) o) F2 m).run Tryz.prog W=stored Tryz.prog W (U (w.heap.size+1) o) F2 m):=fun W o m=>by
  subst hF0 hF1 hF2;exact⟨run_store _ W _ _ m rfl,run_store _ W _ _ m rfl,run_store _ W _ _ m rfl⟩
 have hst0:=fun W o m=>(pK W o m).1;have hst1:=fun W o m=>(pK W o m).2.1;have hst2:=fun W o m=>(pK W o m).2.2;clear pK;go_wp2_with fail;have hn01:((U (w.heap.size+1) 0):Addr)≠(U (w.heap.size+1) 1):=fun e=>by simp at e
 have hn02:((U (w.heap.size+1) 0):Addr)≠(U (w.heap.size+1) 2):=fun e=>by simp at e
 have hn12:((U (w.heap.size+1) 1):Addr)≠(U (w.heap.size+1) 2):=fun e=>by simp at e
 have d2:(((w2.setCell (U (w.heap.size+1) 0) F0).setCell (U (w.heap.size+1) 1) F1).setCell (U (w.heap.size+1) 2) F2).cell? (U (w.heap.size+1) 2)=some F2:=
  yM _ _ _ ((yL _ _ _ _ hn12).trans ((yL _ _ _ _ hn02).trans c2))
 have d1:(((w2.setCell (U (w.heap.size+1) 0) F0).setCell (U (w.heap.size+1) 1) F1).setCell (U (w.heap.size+1) 2) F2).cell? (U (w.heap.size+1) 1)=some F1:=
  (yL _ _ _ _ hn12.symm).trans (yM _ _ _ ((yL _ _ _ _ hn01).trans c1))
 have d0:(((w2.setCell (U (w.heap.size+1) 0) F0).setCell (U (w.heap.size+1) 1) F1).setCell (U (w.heap.size+1) 2) F2).cell? (U (w.heap.size+1) 0)=some F0:=
  (yL _ _ _ _ hn02.symm).trans ((yL _ _ _ _ hn01.symm).trans (yM _ _ _ c0))
 have xy:W2.heap.size≠w.heap.size+1:=by rw[Z vL];omega
 have HT5:=Q (zH (Z bW) (w':=((w2.setCell (U (w.heap.size+1) 0) F0).setCell (U (w.heap.size+1) 1) F1).setCell (U (w.heap.size+1) 2) F2) ((yS _ _ _ _ xy).trans ((yS _ _ _ _ xy).trans (yS _ _ _ _ xy))));have uT:=Q ((((Z xq).setCell (p:=(U (w.heap.size+1) 0)) (by simp) F0).setCell (p:=(U (w.heap.size+1) 1)) (by simp) F1).setCell (p:=(U (w.heap.size+1) 2)) (by simp) F2);generalize ((w2.setCell (U (w.heap.size+1) 0) F0).setCell (U (w.heap.size+1) 1) F1).setCell (U (w.heap.size+1) 2) F2=W5 at *
 try simp only[Exit.inBlock,Exit.then]
 refine bodyPost_ret (by simp[results,Tryz.results77,go_sem,d0,d1,d2];try rfl) rfl ?_;refine⟨W2.heap.size,?_,Z HT5,by rw[Z vL];omega,Z uT⟩;subst hF0 hF1 hF2;rfl
def hdO (q:List Od):Od:=(q.head?).getD zOd
def hdF (q:List Od):Bool:=(q.head?).isSome
theorem frOf_eq (q:List Od):frOf q = .tuple #[.agg (yw ((hdO q).id) ((hdO q).side) ((hdO q).ticks) ((hdO q).left) ((hdO q).life) ((hdO q).tag)).toArray,.bool (hdF q)]:=by
 unfold frOf hdO hdF;cases q.head? <;> rfl
def noV (c:Cm):Value:=.agg #[H c.s,H c.t,H c.l,H c.q,yj c.p,yk c.g]
def dP (t:Int):Bool:=decide (t=1)||decide (t=5)
def prcB (c:Cm):Bool:=if c.t=2 then decide (fbit c.p=0) else tkOk c.p
def dY (c:Cm)(o:Od):Bool:=if c.t=2 then true else if c.s=1 then decide (o.ticks<=tk c.p) else decide (tk c.p<=o.ticks)
def ordO (c:Cm)(id:Int):Od:=⟨id,c.s,tk c.p,c.q,c.l,c.g⟩
def othS (s:Int):Int:=if s=1 then 2 else 1
theorem isType_any (t:Int)(w:World) :
  Calls Tryz.prog 174 #[H t] w fun e w'=>e=ym (.bool (betB t 1 5))/\w'=w:=by
 go_enter Tryz.func174,Tryz.ntmps174;go_wp2_with fail;refine(iJ t 1 5 w).mono ?_;rintro e w' ⟨rfl,rfl⟩;go_wp2_with fail;go_ret;exact⟨rfl,rfl⟩
theorem isQty_any (t:Int)(w:World) :
  Calls Tryz.prog 177 #[H t] w fun e w'=>e=ym (.bool (betB t 1 1000000))/\w'=w:=by
 go_enter Tryz.func177,Tryz.ntmps177;go_wp2_with fail;refine(iJ t 1 1000000 w).mono ?_;rintro e w' ⟨rfl,rfl⟩;go_wp2_with fail;go_ret;exact⟨rfl,rfl⟩
theorem otherSide_any (s:Int)(w:World) :
  Calls Tryz.prog 153 #[H s] w fun e w'=>e=ym (H (othS s))/\w'=w:=by
 by_cases h:s=1
 ·subst h;go_enter Tryz.func153,Tryz.ntmps153;go_wp2_with fail;go_ret;exact⟨rfl,rfl⟩
 ·have h':(s==1)=false:=by simpa using h
  have HS:Hid (othS s=1):=if_neg h;go_enter Tryz.func153,Tryz.ntmps153;go_wp2_with fail;go_ret;exact⟨zt (Z HS).symm,rfl⟩
theorem iC (c:Cm)(w:World) :
  Calls Tryz.prog 155 #[noV c] w fun e w'=>e=ym (.bool (dP c.t))/\yn w w':=by
 obtain⟨k,s,t,l,q,i,p,g⟩:=c;unfold noV;simp only
 by_cases D:t=1
 ·subst D;go_enter Tryz.func155,Tryz.ntmps155;go_wp2_with fail;go_ret;exact⟨rfl,by go_grown⟩
 ·have b1:(t==1)=false:=by simpa using D
  by_cases h5:t=5
  ·subst h5;go_enter Tryz.func155,Tryz.ntmps155;go_wp2_with fail;go_ret;exact⟨rfl,by go_grown⟩
  ·have b5:(t==5)=false:=by simpa using h5
   have HR:Hid (dP t=false):=by show dP t=false;simp[dP,D,h5]
   go_enter Tryz.func155,Tryz.ntmps155;go_wp2_with fail;go_ret;exact⟨zO (Z HR).symm,by go_grown⟩
theorem hasPrice_any (c:Cm)(w:World) :
  Calls Tryz.prog 176 #[noV c] w fun e w'=>e=ym (.bool (prcB c))/\yn w w':=by
 obtain⟨k,s,t,l,q,i,p,g⟩:=c;unfold noV;simp only;have HB:Hid (yn w (w.alloc (J #[H s,H t,H l,H q,yj p,yk g] 96))):=lT _ _
 by_cases E:t=2
 ·subst E;have HP:Hid (prcB ⟨k,s,2,l,q,i,p,g⟩=decide (fbit p=0)):=if_pos rfl;go_enter Tryz.func176,Tryz.ntmps176;go_wp2_with fail;refine(floatBits_any p _).mono ?_;rintro e w' ⟨rfl,rfl⟩;go_wp2_with fail;go_ret;exact⟨zO (by rw[Z HP,Bool.eq_iff_iff];simp),Z HB⟩
 ·have b2:(t==2)=false:=by simpa using E
  have HP:Hid (prcB ⟨k,s,t,l,q,i,p,g⟩=tkOk p):=if_neg E;go_enter Tryz.func176,Tryz.ntmps176;go_wp2_with fail;refine(lg p _).mono ?_;rintro e w' ⟨rfl,rfl⟩;go_wp2_with fail;go_ret;exact⟨zO (Z HP).symm,Z HB⟩
theorem meets_any (c:Cm)(o:Od)(w:World) :
  Calls Tryz.prog 154 #[noV c,.agg (yw o.id o.side o.ticks o.left o.life o.tag).toArray] w fun e w'=>e=ym (.bool (dY c o))/\yn w w':=by
 obtain⟨k,s,t,l,q,i,p,g⟩:=c;obtain⟨id,side,ticks,left,life,tag⟩:=o;unfold noV;simp only;have HB:Hid (yn w ((w.alloc (J #[H s,H t,H l,H q,yj p,yk g] 96)).alloc (J (yw id side ticks left life tag).toArray 98))):=(lT _ _).alloc (by rw[zh];omega) _
 by_cases E:t=2
 ·subst E;have HP:Hid (dY ⟨k,s,2,l,q,i,p,g⟩ ⟨id,side,ticks,left,life,tag⟩=true):=if_pos rfl;go_enter Tryz.func154,Tryz.ntmps154;go_wp2_with fail;go_ret;exact⟨zO (Z HP).symm,Z HB⟩
 ·have b2:(t==2)=false:=by simpa using E
  by_cases D:s=1
  ·subst D;have HP:Hid (dY ⟨k,1,t,l,q,i,p,g⟩ ⟨id,side,ticks,left,life,tag⟩=decide (ticks<=tk p)):=by show _ = _;rw[dY,if_neg E];rfl
   go_enter Tryz.func154,Tryz.ntmps154;go_wp2_with fail;refine(lg p _).mono ?_;rintro e w' ⟨rfl,rfl⟩;go_wp2_with fail;go_ret;exact⟨zO (Z HP).symm,Z HB⟩
  ·have b1:(s==1)=false:=by simpa using D
   have HP:Hid (dY ⟨k,s,t,l,q,i,p,g⟩ ⟨id,side,ticks,left,life,tag⟩=decide (tk p<=ticks)):=by show _ = _;rw[dY,if_neg E,if_neg D]
   go_enter Tryz.func154,Tryz.ntmps154;go_wp2_with fail;refine(lg p _).mono ?_;rintro e w' ⟨rfl,rfl⟩;go_wp2_with fail;go_ret;exact⟨zO (Z HP).symm,Z HB⟩
theorem order_any (c:Cm)(id:Int)(w:World) :
  Calls Tryz.prog 98 #[noV c,H id] w fun e w'=>e=ym (.agg (yw id c.s (tk c.p) c.q c.l c.g).toArray)/\yn w w':=by
 obtain⟨k,s,t,l,q,i,p,g⟩:=c;unfold noV;simp only;go_enter Tryz.func98,Tryz.ntmps98;go_wp2_with fail;refine(lg p _).mono ?_;rintro e w' ⟨rfl,rfl⟩;go_wp2_with fail;go_returns;refine⟨rfl,?_⟩;go_grown
theorem toldNew_any (c:Cm)(w:World) :
  Calls Tryz.prog 240 #[noV c] w fun e w'=>e=ym (.agg (yx 1 c.s c.t c.l c.q 0 c.p c.g).toArray)/\yn w w':=by
 obtain⟨k,s,t,l,q,i,p,g⟩:=c;unfold noV;have hsf:=sfl;simp only;go_enter Tryz.func240,Tryz.ntmps240;go_wp2_with fail;go_returns;refine⟨rfl,?_⟩;go_grown
theorem toldCancel_any (i:Int)(w:World) :
  Calls Tryz.prog 258 #[.agg #[H i]] w fun e w'=>e=ym (.agg (yx 2 0 0 0 0 i 0 ⟨#[]⟩).toArray)/\yn w w':=by
 have hsf:=sfl;go_enter Tryz.func258,Tryz.ntmps258;go_wp2_with fail;go_returns;refine⟨rfl,?_⟩;go_grown
theorem toldReduce_any (i q:Int)(w:World) :
  Calls Tryz.prog 259 #[.agg #[H i,H q]] w fun e w'=>e=ym (.agg (yx 3 0 0 0 q i 0 ⟨#[]⟩).toArray)/\yn w w':=by
 have hsf:=sfl;go_enter Tryz.func259,Tryz.ntmps259;go_wp2_with fail;go_returns;refine⟨rfl,?_⟩;go_grown
theorem toldDay_any (w:World) :
  Calls Tryz.prog 260 #[.agg #[]] w fun e w'=>e=ym (.agg (yx 4 0 0 0 0 0 0 ⟨#[]⟩).toArray)/\yn w w':=by
 have hsf:=sfl;go_enter Tryz.func260,Tryz.ntmps260;go_wp2_with fail;go_returns;refine⟨rfl,?_⟩;go_grown
theorem cells_madeV (w:World)(cs:List Value)(t:TypeId):(w.alloc (Obj.cells cs.toArray t)).rangeAt w.heap.size 0 cs:=fun j u h=>by
 rw[cell_of_row _ w.heap.size (0+j) cs.toArray t (0,0) (heap_alloc_new w _)];simpa using h
theorem size_madeV (w:World)(o:Obj):(w.alloc o).heap.size=w.heap.size+1:=by simp
theorem there_madeV (w:World)(cs:List Value)(t:TypeId):(w.alloc (Obj.cells cs.toArray t)).there w.heap.size 0 cs.length:=gD (heap_alloc_new w _) (by simp)
theorem valueOf_any (e:Ev)(w:World) :
  Calls Tryz.prog 172 #[evV e] w fun x w'=>x=ym (vlV e)/\yn w w':=by
 obtain⟨xl,⟨k,s,t,l,q,i,p,g⟩,id,xh,qty,xi,xg⟩:=e;unfold evV vlV;have hsf:=sfl;simp only;generalize cy:fbit p=fp;have HFB:=Q (fun W=>cy ▸ floatBits_any p W);clear cy;have xI:(w.alloc (J (yv xl k s t l q i p g id xh qty xi xg).toArray 89)).heap.size=w.heap.size+1:=size_madeV _ _;have uc:((w.alloc (J (yv xl k s t l q i p g id xh qty xi xg).toArray 89)).alloc (J #[H 0,H 0,H 0,H 0,H 0,H 0,H 0,H 0,H 0,H 0,H 0,H 0,.int .u64 0,yk ⟨#[]⟩] 261)).heap.size=w.heap.size+2:=by rw[size_madeV,xI]
 have ja:(((w.alloc (J (yv xl k s t l q i p g id xh qty xi xg).toArray 89)).alloc (J #[H 0,H 0,H 0,H 0,H 0,H 0,H 0,H 0,H 0,H 0,H 0,H 0,.int .u64 0,yk ⟨#[]⟩] 261)).alloc (J (yx k s t l q i p g).toArray 57)).heap.size=w.heap.size+3:=by rw[size_madeV,uc]
 have b1:Below (w.heap.size+1) (w.alloc (J (yv xl k s t l q i p g id xh qty xi xg).toArray 89)) (((w.alloc (J (yv xl k s t l q i p g id xh qty xi xg).toArray 89)).alloc (J #[H 0,H 0,H 0,H 0,H 0,H 0,H 0,H 0,H 0,H 0,H 0,H 0,.int .u64 0,yk ⟨#[]⟩] 261)).alloc (J (yx k s t l q i p g).toArray 57)):=(((Below.refl _ _).alloc (by rw[xI];omega) _).alloc (by rw[uc];omega) _);have b2:Below (w.heap.size+2) ((w.alloc (J (yv xl k s t l q i p g id xh qty xi xg).toArray 89)).alloc (J #[H 0,H 0,H 0,H 0,H 0,H 0,H 0,H 0,H 0,H 0,H 0,H 0,.int .u64 0,yk ⟨#[]⟩] 261)) (((w.alloc (J (yv xl k s t l q i p g id xh qty xi xg).toArray 89)).alloc (J #[H 0,H 0,H 0,H 0,H 0,H 0,H 0,H 0,H 0,H 0,H 0,H 0,.int .u64 0,yk ⟨#[]⟩] 261)).alloc (J (yx k s t l q i p g).toArray 57)):=((Below.refl _ _).alloc (by rw[uc];omega) _);have r1:=zd (cells_madeV w (yv xl k s t l q i p g id xh qty xi xg) 89) b1 (by omega);have t2:=there_madeV (w.alloc (J (yv xl k s t l q i p g id xh qty xi xg).toArray 89)) [H 0,H 0,H 0,H 0,H 0,H 0,H 0,H 0,H 0,H 0,H 0,H 0,.int .u64 0,yk ⟨#[]⟩] 261;have r3:=cells_madeV ((w.alloc (J (yv xl k s t l q i p g id xh qty xi xg).toArray 89)).alloc (J #[H 0,H 0,H 0,H 0,H 0,H 0,H 0,H 0,H 0,H 0,H 0,H 0,.int .u64 0,yk ⟨#[]⟩] 261)) (yx k s t l q i p g) 57;rw[xI] at t2;rw[uc] at r3;have t2':=zl t2 b2 (by omega);have xZ:Hid (yn w (((w.alloc (J (yv xl k s t l q i p g id xh qty xi xg).toArray 89)).alloc (J #[H 0,H 0,H 0,H 0,H 0,H 0,H 0,H 0,H 0,H 0,H 0,H 0,.int .u64 0,yk ⟨#[]⟩] 261)).alloc (J (yx k s t l q i p g).toArray 57))):=((lT _ _).alloc (by rw[xI];omega) _).alloc (by rw[uc];omega) _;have HX:Hid (_/\_/\_):=⟨r1,t2',r3⟩;clear r1 t2 t2' r3 b1 b2 xI uc ja;go_enter Tryz.func172,Tryz.ntmps172;go_wp2_with fail;generalize (((w.alloc (J (yv xl k s t l q i p g id xh qty xi xg).toArray 89)).alloc (J #[H 0,H 0,H 0,H 0,H 0,H 0,H 0,H 0,H 0,H 0,H 0,H 0,.int .u64 0,yk ⟨#[]⟩] 261)).alloc (J (yx k s t l q i p g).toArray 57))=WW at xZ HX |-;obtain⟨kX,kY,hr3⟩:=Z HX;have x0:=kX 0 _ rfl;have x1:=kX 1 _ rfl;have x2:=kX 2 _ rfl;have x3:=kX 3 _ rfl;have x4:=kX 4 _ rfl;have x5:=kX 5 _ rfl;have x6:=kX 6 _ rfl;have x7:=kX 7 _ rfl;have x8:=kX 8 _ rfl;have x9:=kX 9 _ rfl;have x10:=kX 10 _ rfl;have x11:=kX 11 _ rfl;have x12:=kX 12 _ rfl;have x13:=kX 13 _ rfl;have y0:=hr3 0 _ rfl;have y1:=hr3 1 _ rfl;have y2:=hr3 2 _ rfl;have y3:=hr3 3 _ rfl;have y4:=hr3 4 _ rfl;have y5:=hr3 5 _ rfl;have y6:=hr3 6 _ rfl;have y7:=hr3 7 _ rfl;simp only[Nat.zero_add] at x0 x1 x2 x3 x4 x5 x6 x7 x8 x9 x10 x11 x12 x13 y0 y1 y2 y3 y4 y5 y6 y7;obtain⟨v0,z0,f0⟩:=zI kY 0 (by decide);obtain⟨v1,z1,f1⟩:=zI kY 1 (by decide);obtain⟨v2,z2,f2⟩:=zI kY 2 (by decide);obtain⟨v3,z3,f3⟩:=zI kY 3 (by decide);obtain⟨v4,z4,f4⟩:=zI kY 4 (by decide);obtain⟨v5,z5,f5⟩:=zI kY 5 (by decide);obtain⟨v6,z6,f6⟩:=zI kY 6 (by decide);obtain⟨v7,z7,f7⟩:=zI kY 7 (by decide);obtain⟨v8,z8,f8⟩:=zI kY 8 (by decide);obtain⟨v9,z9,f9⟩:=zI kY 9 (by decide);obtain⟨v10,jv,f10⟩:=zI kY 10 (by decide);obtain⟨v11,jL,cU⟩:=zI kY 11 (by decide);obtain⟨v12,jZ,f12⟩:=zI kY 12 (by decide);obtain⟨v13,pA,f13⟩:=zI kY 13 (by decide);simp only[Nat.zero_add] at z0 f0 z1 f1 z2 f2 z3 f3 z4 f4 z5 f5 z6 f6 z7 f7 z8 f8 z9 f9 jv f10 jL cU jZ f12 pA f13;have HT:=Q kY;clear kX kY hr3 HX;refine wp_region_still_tail 30 (by kernel_rfl) (by kernel_rfl) ?_;simp only[yT,List.take_zero,yU,List.drop_zero]
 repeat still_step
 still_call (Z HFB _)
 repeat still_step
 refine wpStill_nil ?_;go_wp2_with fail;change bodyPost _ _ _ _ _ (WW.setCells (w.heap.size+1) 0 [H xl,H id,H xh,H qty,H xi,H xg,H k,H s,H t,H l,H q,H i,.int .u64 fp,yk g]).drew;have oy:=Q (yX WW (w.heap.size+1) 0 [H xl,H id,H xh,H qty,H xi,H xg,H k,H s,H t,H l,H q,H i,.int .u64 fp,yk g] (fun j hj=>Z HT j hj));have vV:=Q (zg (w.heap.size+1) (by omega) [H xl,H id,H xh,H qty,H xi,H xg,H k,H s,H t,H l,H q,H i,.int .u64 fp,yk g] 0 WW (Z xZ));generalize WW.setCells (w.heap.size+1) 0 [H xl,H id,H xh,H qty,H xi,H xg,H k,H s,H t,H l,H q,H i,.int .u64 fp,yk g]=WE at oy vV |-;obtain⟨d0,d1,d2,d3,d4,d5,d6,d7,d8,d9,jq,jG,jH,jI⟩:=yF (Z oy)
 try simp only[Exit.inBlock,Exit.then]
 refine bodyPost_ret (by simp[results,Tryz.results172,go_sem,d0,d1,d2,d3,d4,d5,d6,d7,d8,d9,jq,jG,jH,jI];try rfl) rfl ?_;exact⟨rfl,(Z vV).drew⟩
theorem count_set:∀(x:List Bool) (i:Nat),x[i]? = some false->(x.set i true).count false+1=x.count false
 | [],i,h=>by simp at h
 | b::r,0,h=>by simp at h;subst h;simp
 | b::r,i+1,h=>by
  have ih:=count_set r i (by simpa using h);simp only[List.set_cons_succ,List.count_cons];omega
theorem no_false {x:List Bool}(h:x.count false=0)(i:Nat):x[i]? ≠ some false:=fun e=>by
 have:=List.count_pos_iff.2 (yO e);omega
section
variable {P:Program} {yc:Exit->Act->World->Prop} {l:List Oper} (R:List Bool->Act->World->Prop)
theorem ready_facts {x:List Bool}(hx:x.length=l.length){i:Nat}(h:i∈Region.ready .any l.toArray x.toArray) :
  ∃o,l[i]? = some o/\x[i]? = some false/\∀e∈o.after,Region.binds .any e=true->x[e.on]? = some true:=by
 obtain⟨D,o,E,h3⟩:=mem_ready.1 h;refine⟨o,by simpa using E,?_,fun e he A=>?_⟩
 ·by_cases hi:i<x.length
  ·simp[hi] at D;simp[hi,D]
  ·simp[hi] at D
 ·have:=h3 e he A
  by_cases hi:e.on<x.length
  ·simp[hi] at this;simp[hi,this]
  ·simp[hi] at this
theorem ready_none {x:List Bool}(h:Region.ready .any l.toArray x.toArray = [])(hx:x.length=l.length)(i:Nat)(o:Oper)(K:l[i]? = some o)(I:∀e∈o.after,Region.binds .any e=true->x[e.on]? = some true):x[i]? = some true:=by
 have hi:i<x.length:=by rw[hx];exact(yG.1 K).1
 cases A:x[i]
 ·exfalso
  have:i∈Region.ready .any l.toArray x.toArray:=mem_ready.2 ⟨by simp[hi,A],o,by simpa using K,fun e he hbd=>by
   have:=I e he hbd;obtain⟨D,E⟩:=yG.1 this;simp[D,E]⟩
  rw[h] at this;simp at this
 ·simp[hi,A]
theorem wpAny_inv
  (uN:∀x a w,R x a w->x.length=l.length->Region.ready .any l.toArray x.toArray = []->yc .normal a w)
  (jR:∀x a w i o,R x a w->x.length=l.length->l[i]? = some o->x[i]? = some false->(∀e∈o.after,Region.binds .any e=true->x[e.on]? = some true) ->
   (if Region.wanted o (yielded l.toArray a.tmps) then o.wp P a w (fun a' w'=>R (x.set i true) a' w') yc else R (x.set i true) (a.put o.dst F) w)) :
  ∀(n:Nat) (x:List Bool) (a:Act) (w:World),x.count false=n->x.length=l.length->R x a w->wpAny P .any l.toArray yc n x.toArray a w
 | 0,x,a,w,hn,hx,hR=>by
  have hr:Region.ready .any l.toArray x.toArray = []:=by
   apply List.eq_nil_iff_forall_not_mem.2;intro i hi;obtain⟨o,_,E,_⟩:=ready_facts hx hi;exact no_false hn i E
  exact⟨hr,uN x a w hR hx hr⟩
 | n+1,x,a,w,hn,hx,hR=>by
  refine⟨fun hr=>uN x a w hR hx hr,fun i hi=>?_⟩;obtain⟨o,D,E,h3⟩:=ready_facts hx hi;have hs:=jR x a w i o hR hx D E h3;have hc:=count_set x i E
  have hnext:∀a' w',R (x.set i true) a' w'->wpAny P .any l.toArray yc n (x.toArray.setIfInBounds i true) a' w':=fun a' w' h=>by
   have:=wpAny_inv uN jR n (x.set i true) a' w' (by omega) (by simpa using hx) h;simpa using this
  have K:l.toArray[i]? = some o:=by simpa using D
  unfold wpOp;rw[K];simp only;split
  ·next hw=>rw[if_pos hw] at hs;exact .inl (Oper.wp_mono hnext hs)
  ·next hw=>rw[if_neg hw] at hs;exact hnext _ _ hs
theorem iO {id:Nat}{a:Act}{w:World}(hm:P.follows .mixedOrders=true)
  (h0:R (List.replicate l.length false) a { w with drawn:=w.drawn+1 })
  (uN:∀x a w,R x a w->x.length=l.length->Region.ready .any l.toArray x.toArray = []->yc .normal a w)
  (jR:∀x a w i o,R x a w->x.length=l.length->l[i]? = some o->x[i]? = some false->(∀e∈o.after,Region.binds .any e=true->x[e.on]? = some true) ->
   (if Region.wanted o (yielded l.toArray a.tmps) then o.wp P a w (fun a' w'=>R (x.set i true) a' w') yc else R (x.set i true) (a.put o.dst F) w)) :
  (Code.region id l.toArray true).wp P yc a w:=by
 refine wp_region_any hm ?_;have:=wpAny_inv R uN jR l.length (List.replicate l.length false) a { w with drawn:=w.drawn+1 } (by simp) (by simp) h0;simpa using this
end
def RGrow (base:World)(yl:(Nat->Value)->Act)(C:Nat->Value->Prop)(x:List Bool)(hb:Act)(W:World):Prop:=
 ∃f,hb=yl f/\yn base W/\∀j,x[j]? = some true->C j (f j)
theorem zD {C:Nat->Value->Prop}{x:List Bool}{f:Nat->Value}{i:Nat}{v:Value}(h:∀j,x[j]? = some true->C j (f j))(hv:C i v):∀j,(x.set i true)[j]? = some true->C j (upd f i v j):=fun j hj=>by
 by_cases hji:j=i
 ·subst hji;rw[zr];exact hv
 ·rw[zn _ _ hji];rw[yW (fun e=>hji e.symm)] at hj;exact h j hj
theorem eJ {l:List Oper}{x:List Bool}(h:Region.ready .any l.toArray x.toArray = [])(hx:x.length=l.length)(hacy:∀(i:Nat) (o:Oper),l[i]? = some o->∀e∈o.after,e.on<i):∀i,i<l.length->x[i]? = some true:=by
 intro i
 induction i using Nat.strongRecOn with
 | _ i ih =>
  intro hi;refine ready_none h hx i l[i] (yH hi) fun e he _=>?_;have:=hacy i l[i] (yH hi) e he;exact ih e.on this (by omega)
def RG (base:World)(yl:(Nat->Value)->Act)(k:Nat)(h1:Prop->World->Nat->Value->Prop)(x:List Bool)(hb:Act)(W:World):Prop:=
 ∃f,hb=yl f/\yn base W/\∀j,x[j]? = some true->h1 (x[k]? = some true) W j (f j)
section
variable {base W W':World} {yl:(Nat->Value)->Act} {k:Nat} {h1:Prop->World->Nat->Value->Prop} {x:List Bool} {f:Nat->Value}
theorem rg_grow (hm:∀p W W' j v,yn W W'->h1 p W j v->h1 p W' j v)(A:yn base W)(h:∀j,x[j]? = some true->h1 (x[k]? = some true) W j (f j))(M:yn W W'){i:Nat}(hik:i≠k){v:Value}(hv:h1 (x[k]? = some true) W' i v) :
  yn base W'/\∀j,(x.set i true)[j]? = some true->h1 ((x.set i true)[k]? = some true) W' j (upd f i v j):=by
 refine⟨A.trans (M.mono A.size),fun j hj=>?_⟩;rw[yW hik]
 by_cases hji:j=i
 ·subst hji;rw[zr];exact hv
 ·rw[zn _ _ hji];rw[yW (fun e=>hji e.symm)] at hj;exact hm _ _ _ _ _ M (h j hj)
theorem zF (A:yn base W)(h:∀j,x[j]? = some true->h1 (x[k]? = some true) W j (f j)){i:Nat}(hik:i≠k){v:Value}(hv:h1 (x[k]? = some true) W i v) :
  yn base W/\∀j,(x.set i true)[j]? = some true->h1 ((x.set i true)[k]? = some true) W j (upd f i v j):=by
 refine⟨A,fun j hj=>?_⟩;rw[yW hik]
 by_cases hji:j=i
 ·subst hji;rw[zr];exact hv
 ·rw[zn _ _ hji];rw[yW (fun e=>hji e.symm)] at hj;exact h j hj
end
theorem set_monoG {x:List Bool}{i j:Nat}(h:x[j]? = some true):(x.set i true)[j]? = some true:=by
 by_cases pY:i=j
 ·subst pY;exact List.getElem?_set_self (yG.1 h).1
 ·rw[yW pY];exact h
def Closed (l:List Oper)(x:List Bool):Prop:=∀(i:Nat) (o:Oper),l[i]? = some o->x[i]? = some true->∀e∈o.after,Region.binds .any e=true->x[e.on]? = some true
theorem closed_step {l:List Oper}{x:List Bool}{i:Nat}{o:Oper}(h:Closed l x)(K:l[i]? = some o)(I:∀e∈o.after,Region.binds .any e=true->x[e.on]? = some true):Closed l (x.set i true):=by
 intro j o' qF hj e he A
 by_cases hji:j=i
 ·subst hji;rw[K] at qF;obtain rfl:=yb qF;exact set_monoG (I e he A)
 ·rw[yW (fun e=>hji e.symm)] at hj;exact set_monoG (h j o' qF hj e he A)
theorem zL {P:Program}{yc:Exit->Act->World->Prop}{l:List Oper}(R:List Bool->Act->World->Prop){id:Nat}{a:Act}{w:World}(hm:P.follows .mixedOrders=true)
  (h0:R (List.replicate l.length false) a { w with drawn:=w.drawn+1 })
  (uN:∀x a w,R x a w->x.length=l.length->Region.ready .any l.toArray x.toArray = []->yc .normal a w)
  (jR:∀x a w i o,R x a w->Closed l x->x.length=l.length->l[i]? = some o->x[i]? = some false->(∀e∈o.after,Region.binds .any e=true->x[e.on]? = some true) ->
   (if Region.wanted o (yielded l.toArray a.tmps) then o.wp P a w (fun a' w'=>R (x.set i true) a' w') yc else R (x.set i true) (a.put o.dst F) w)) :
  (Code.region id l.toArray true).wp P yc a w:=by
 refine iO (fun x a w=>R x a w/\Closed l x) hm ⟨h0,fun i o _ hi=>by rw[yI] at hi;split at hi <;> simp at hi⟩ (fun x a w h=>uN x a w h.1) ?_;intro x a w i o h hx K xJ I;have hs:=jR x a w i o h.1 h.2 hx K xJ I;have hc:=closed_step h.2 K I;split
 ·next hw=>rw[if_pos hw] at hs;exact Oper.wp_mono (fun a' w' hR=>⟨hR,hc⟩) hs
 ·next hw=>rw[if_neg hw] at hs;exact⟨hs,hc⟩
theorem zw {P:Program}{id:Nat}{yc:Exit->Act->World->Prop}{a:Act}{w:World}{l:List Oper}(n:Nat)(hm:P.follows .mixedOrders=true)(hB:Region.lexTailB .any l.toArray n=true)
  (h:wpStill P l.toArray w.drew (fun a'=>wpList P l.toArray yc (l.drop n) a' w.drew) (l.take n) a):(Code.region id l.toArray true).wp P yc a w:=wp_region_still_tail n hm hB h
theorem lB {P:Program}{w:World}{o:Oper}{a:Act}{ho:Act->World->Prop}{yc:Exit->Act->World->Prop}(s x:Operand)(t:TypeId)
  (K:o.op = .call { callee:=.builtin .append,args:=#[s,x],argTypes:=#[t,t] })
  (base:Nat) (e:TypeId) (i:TypeInfo) (size:Nat) (ht:P.underlying t=some (.slice e)) (hi:P.info? e=some i)
  (v:Value) (n:Nat) (xs:List Value) (hs:a.eval s=v) (xL:w.ownsRow base e size v n xs) (hx:a.eval x = .slice none 0 0)
  (h:ho (a.put o.dst v) w):o.wp P a w ho yc:=by
 have hrun:=run_append_owned_none (P:=P) (w:=w) base t o.type e i size ht hi v n xs xL;unfold Oper.wp;simp[execOp,K,resolve,invoke,builtin,hs,hx,hrun,Result.andThen];exact h
theorem yf {l : List Oper}{x : List Bool}(h : Closed l x)(i : Nat){o : Oper}(K : l[i]? = some o)(hi : x[i]? = some true)(j : Nat)(hm : (o.after.toList.any fun e => e.on==j&&Region.binds .any e)=true) : x[j]? = some true:= ye (h i o K hi) j hm
def sideL_b (b:Nat):List Value:=[.func (.func 156) #[xj b 0] #[],.func (.func 157) #[xj b 0] #[],.func (.func 158) #[xj b 0] #[]]
def sideL_s (b:Nat):List Value:=[.func (.func 160) #[xj b 0] #[],.func (.func 161) #[xj b 0] #[],.func (.func 162) #[xj b 0] #[]]
abbrev Tb (w:World)(b:Nat)(q:List Od):Prop:=dQ 249 true w b 1 q
abbrev Ts (w:World)(b:Nat)(q:List Od):Prop:=dQ 252 false w b 2 q
section
variable {W0 w w':World} {BV:Value} {q1 q2:List Od} {x:List Bool} {v33 v34 v35 v36 v5 v6:Value} {b1 b2 p5 p6:Nat}
theorem zT (w:World)(cs:List Value)(t:TypeId):(w.alloc (Obj.cells cs.toArray t)).there w.heap.size 0 cs.length:=gD (heap_alloc_new w _) (by simp)
end

end Go.Proofs.YtbghmldggahjiaaGreatDoor
