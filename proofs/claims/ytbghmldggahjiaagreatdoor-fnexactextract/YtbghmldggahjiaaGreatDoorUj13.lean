/-.-/
import Derived.Test.YtbghmldggahjiaaGreatDoorUj12
set_option linter.unusedVariables false
set_option maxHeartbeats 6400000
set_option maxRecDepth 100000
namespace Go.Proofs.YtbghmldggahjiaaGreatDoor
open Go.RowKit
theorem add_s (b:Nat)(sd:Int)(seq:List Od)(o:Od)(w:World)(h:dQ 252 false w b sd seq)(vh:o.side=sd)(hn:seq.length<20)(hl:∀o'∈seq,0<=o'.left/\o'.left<=1000000)(hlo:0<=o.left/\o.left<=1000000) :
  Calls Tryz.prog 163 #[xj b 0,.agg (yw o.id o.side o.ticks o.left o.life o.tag).toArray] w fun e w' =>
   e=ym (.tuple #[])/\dQ 252 false w' b sd (seq ++ [o])/\w.grownBy w' (some b):=by
 obtain⟨S,t,hT,hi,hq,jC⟩:=h;have HI:=Q hi;have HQ:=Q hq;have HT:=Q hT;have HLC:=Q jC;have HL:=Q hl;have bT:=Q vh;have HOC:=Q hq.oc;have hoc':(S.oc:Int)<20:=by have:=hq.oc;omega
 have e1:((S.oc+1:Nat):Int)=(S.oc:Int)+1:=by omega
 have A:b≠w.heap.size:=by have:=tm_lt hT;omega
 have oT:World.rangeAt (w.alloc (J (yw o.id o.side o.ticks o.left o.life o.tag).toArray 98)) w.heap.size 0 o.vs:=zo w o.vs 98;have pV:TM 252 (w.alloc (J (yw o.id o.side o.ticks o.left o.life o.tag).toArray 98)) b S:=eH hT (Below.heap_alloc w _ _ (tm_lt hT));have c1:=pV.oc;have f1:=pV.fr;have hT1:=tm_oc pV (S.oc+1)
 have hR1:Hid (World.rangeAt (World.setCell (w.alloc (J (yw o.id o.side o.ticks o.left o.life o.tag).toArray 98)) (U b 170) (H ((S.oc+1:Nat):Int))) w.heap.size 0 o.vs):=fun j u hu=>by
  rw[yL _ _ _ _ (fun e=>A (congrArg Addr.block e))];exact oT j u hu
 have ao:Hid (w.grownBy (World.setCell (w.alloc (J (yw o.id o.side o.ticks o.left o.life o.tag).toArray 98)) (U b 170) (H ((S.oc+1:Nat):Int))) (some b)):=zU (World.grownBy_alloc w (J (yw o.id o.side o.ticks o.left o.life o.tag).toArray 98) _) _ _;have jE:=Q hT1
 have xI:Hid (w.heap.size<(World.heap (World.setCell (w.alloc (J (yw o.id o.side o.ticks o.left o.life o.tag).toArray 98)) (U b 170) (H ((S.oc+1:Nat):Int)))).size):=(by
  have:=yK _ _ (hR1 0 _ rfl);exact this)
 clear hi hq jC hl vh hT pV oT hT1;go_enter Tryz.func163,Tryz.ntmps163;go_wp2_with fail;rw[<- e1];have em:∃m,m=S.oc+1:=⟨_,rfl⟩;obtain⟨m,hm⟩:=em;rw[<- hm] at hR1 ao jE xI |-;generalize hW1:World.setCell (w.alloc (J (yw o.id o.side o.ticks o.left o.life o.tag).toArray 98)) (U b 170) (H (m:Int))=W1 at hR1 ao jE xI |-;have HM:=Q hm;have hm21:(m:Int)<21:=by omega
 obtain⟨o0,o1,o2,o3,o4,o5⟩:=zM (Z hR1);obtain⟨q0,q1,q2,q3,q4,q5,q6⟩:=iG ((Z jE).qo m (by omega));have f2:=(Z jE).fr;have aO:S.lc<20:=by have:=Z HLC;omega
 have HB:=Q A;clear hW1 hm e1 c1 f1 hoc' A
 go_region
 have ue:=Q (tm_put (Z jE) m (by omega) o);have ua:=Q (gr_put (w:=W1) (b:=b) o m)
 generalize hW2:(((((((W1.setCell (U b (171+m*7)) (H o.id)).setCell (U b (171+m*7+1)) (H o.side)).setCell (U b (171+m*7+2)) (H o.ticks)).setCell (U b (171+m*7+3)) (H o.left)).setCell
   (U b (171+m*7+4)) (H o.life)).setCell (U b (171+m*7+5)) (yk o.tag)).setCell (U b (171+m*7+6)) (H 0))=W2 at ue ua |-
 clear hW2 o0 o1 o2 o3 o4 o5 q0 q1 q2 q3 q4 q5 q6 f2;rw[show({ root:=S.root,lc:=S.lc,oc:=m,nd:=S.nd,qo:=upd S.qo m ⟨o,0⟩ }:TS)=S.lay o from by rw[Z HM];rfl] at ue;have hR2:=Q (zA (Z hR1) (Z ua) (Z xI) (fun e=>Z HB (Option.some.inj e).symm));obtain⟨o0,o1,o2,o3,o4,o5⟩:=zM (Z hR2);have HTI:=Q (ti_lay o (Z HI));have HT2d:Hid (TM 252 W2.drew.drew b (S.lay o)):=eH (Z ue) rfl;go_wp2_with fail
 go_region_with (go_at_call 199;refine(levelFor_s b (S.lay o) t o W2.drew.drew (Z HT2d) (Z HTI) aO).mono ?_;rintro e W3 ⟨h,rfl,uN⟩;have HE:=Q uN;have jY:(h:Int)<21:=lf_lt uN (Z HTI) aO;clear uN)
 obtain⟨S3,hT3,uW,vG⟩:=Z HE;rw[<- Z bT] at HQ;obtain⟨r1,r2,r3,r4,r5,t',r6,r7⟩:=add_ready (Z HI) (Z HQ) vG;have R4:=Q r4;have R6:=Q r6;have R7:=Q r7
 have R23:Hid ((0:Int)<=(S3.nd h).qty/\(S3.nd h).qty<=20000000/\(0:Int)<=(S3.nd h).count/\(S3.nd h).count<=20):=by
  have A:=sumL_bound (atK seq o.ticks) (fun o' qF=>Z HL o' (List.mem_filter.1 qF).1);have uB:(atK seq o.ticks).length<=seq.length:=List.length_filter_le _ _;rw[r2,r3];refine⟨A.1,?_,by omega,by omega⟩;have:=A.2;have h20:((atK seq o.ticks).length:Int)<=20:=by omega
  omega
 have jT:=Q hT3;have uD:Hid (W2.grownBy W3 (some b)):=⟨uW.os,uW.tape,uW.output,uW.size,uW.block⟩;have dh:=Q (zA (Z hR2) (Z uD) (yJ (Z xI) (Z ua).size) (fun e=>Z HB (Option.some.inj e).symm));have hy21:(S3.nd h).yo<21:=by omega
 have cB:m=1+seq.length:=by have:=Z HM;have:=Z HOC;omega
 have jx:=Q cB;clear hT3 uW vG r1 r2 r3 r4 r5 r6 r7 o0 o1 o2 o3 o4 o5 cB HE;have xN:=(Z jT).fr;obtain⟨n0,n1,n2,n3,n4,n5,n6,n7⟩:=zS ((Z jT).nd h (by omega));have qU:h<21:=by omega
 clear n0 n1 n2 n3 n4 n5
 by_cases hy:(S3.nd h).yo=0
 ·have t5:=ei (Z jT) h 6 qU (by omega) (H m) { S3.nd h with el:=m } rfl _ rfl;have t6:=ei t5 h 7 qU (by omega) (H m) { (TS.nd _ h) with yo:=m } rfl _ rfl;simp only[gB,zr] at t6;obtain⟨-,-,-,-,-,-,-,k7⟩:=zS (t5.nd h qU);have f5:=t5.fr;rw[hy] at n7;have vj:=Q (zU (zU (yR W3 (some b)) (2+h*8+6) (H m)) (2+h*8+7) (H m));have ky:=Q t6;clear t5 t6;go_wp2_with fail;generalize hW6:(W3.setCell (U b (2+h*8+6)) (H m)).setCell (U b (2+h*8+7)) (H m)=W6 at vj ky |-;clear jT hW6;have f6:=(Z ky).fr;obtain⟨-,-,m2,m3,-⟩:=zS ((Z ky).nd h qU);simp only[zr] at m2 m3;have hR6:=zA (Z dh) (Z vj) (yJ (Z xI) (yN (Z ua).size (Z uD).size)) (fun e=>Z HB (Option.some.inj e).symm);obtain⟨-,-,-,x3,-⟩:=zM hR6;obtain⟨b1,b2,b3,b4⟩:=Z R23;have t7:=ei (Z ky) h 2 qU (by omega) (H ((S3.nd h).qty+o.left)) { (TS.nd _ h) with qty:=(S3.nd h).qty+o.left } rfl _ rfl;have t8:=ei t7 h 3 qU (by omega) (H ((S3.nd h).count+1)) { (TS.nd _ h) with count:=(S3.nd h).count+1 } rfl _ rfl;obtain⟨-,-,-,y3,-⟩:=zS (t7.nd h qU);have f7:=t7.fr;simp only[gB,zr] at t8 y3;have bV:=Q t8;have kT:=Q (zU (zU (yR W6 (some b)) (2+h*8+2) (H ((S3.nd h).qty+o.left))) (2+h*8+3) (H ((S3.nd h).count+1)));have pw:wrap64 ((S3.nd h).qty+o.left)=(S3.nd h).qty+o.left:=by unfold wrap64;omega
  clear t7 t8 hR6
  go_region
  try simp only[IntKind.wrap_i64]
  try rw[show(IntKind.i64.wrap ((S3.nd h).qty+o.left))=(S3.nd h).qty+o.left from by rw[IntKind.wrap_i64];exact pw]
  generalize hW7:W6.setCell (U b (2+h*8+2)) (H ((S3.nd h).qty+o.left))=W7 at *;go_wp2_with fail;go_end0;have HS8:Hid (_ = S3.link h m o.left):=link_eq0 S3 h m o.left hy;rw[Z HS8] at bV;rw[Z jx] at bV;refine⟨rfl,?_,?_⟩
  ·rw[<- Z bT];refine⟨_,t',eH (Z bV) rfl,Z R6,Z R7,?_⟩;have D:=Z R4;have E:=Z HLC;show S3.lc <= _;simp;omega
  ·exact gg (((((Z ao).trans (Z ua)).trans (Z uD)).trans (Z vj)).trans (Z kT)) rfl rfl rfl rfl
 ·have t5:=tm_qo (Z jT) (S3.nd h).yo 6 hy21 (by omega) (H m) { S3.qo (S3.nd h).yo with yg:=m } rfl _ rfl;have t6:=ei t5 h 7 qU (by omega) (H m) { (TS.nd _ h) with yo:=m } rfl _ rfl;obtain⟨-,-,-,-,-,-,-,k7⟩:=zS (t5.nd h qU);obtain⟨-,-,-,-,-,-,q6⟩:=iG ((Z jT).qo (S3.nd h).yo hy21);have f5:=t5.fr;have hyi:((S3.nd h).yo:Int)<21:=by omega
  have hy0:¬ (((S3.nd h).yo:Int)=0):=by omega
  have vj:=Q (zU (zU (yR W3 (some b)) (171+(S3.nd h).yo*7+6) (H m)) (2+h*8+7) (H m));have ky:=Q t6;clear t5 t6;go_wp2_with fail
  go_region
  go_wp2_with fail;generalize hW6:(W3.setCell (U b (171+(S3.nd h).yo*7+6)) (H m)).setCell (U b (2+h*8+7)) (H m)=W6 at vj ky |-;clear jT hW6;have f6:=(Z ky).fr;obtain⟨-,-,m2,m3,-⟩:=zS ((Z ky).nd h qU);simp only[zr] at m2 m3;have hR6:=zA (Z dh) (Z vj) (yJ (Z xI) (yN (Z ua).size (Z uD).size)) (fun e=>Z HB (Option.some.inj e).symm);obtain⟨-,-,-,x3,-⟩:=zM hR6;obtain⟨b1,b2,b3,b4⟩:=Z R23;have t7:=ei (Z ky) h 2 qU (by omega) (H ((S3.nd h).qty+o.left)) { (TS.nd _ h) with qty:=(S3.nd h).qty+o.left } rfl _ rfl;have t8:=ei t7 h 3 qU (by omega) (H ((S3.nd h).count+1)) { (TS.nd _ h) with count:=(S3.nd h).count+1 } rfl _ rfl;obtain⟨-,-,-,y3,-⟩:=zS (t7.nd h qU);have f7:=t7.fr;simp only[gB,zr] at t8 y3;have bV:=Q t8;have kT:=Q (zU (zU (yR W6 (some b)) (2+h*8+2) (H ((S3.nd h).qty+o.left))) (2+h*8+3) (H ((S3.nd h).count+1)));have pw:wrap64 ((S3.nd h).qty+o.left)=(S3.nd h).qty+o.left:=by unfold wrap64;omega
  clear t7 t8 hR6
  go_region
  try simp only[IntKind.wrap_i64]
  try rw[show(IntKind.i64.wrap ((S3.nd h).qty+o.left))=(S3.nd h).qty+o.left from by rw[IntKind.wrap_i64];exact pw]
  generalize hW7:W6.setCell (U b (2+h*8+2)) (H ((S3.nd h).qty+o.left))=W7 at *;go_wp2_with fail;go_end0;have HS8:Hid (_ = S3.link h m o.left):=link_eq1 S3 h m o.left hy;rw[Z HS8] at bV;rw[Z jx] at bV;refine⟨rfl,?_,?_⟩
  ·rw[<- Z bT];refine⟨_,t',eH (Z bV) rfl,Z R6,Z R7,?_⟩;have D:=Z R4;have E:=Z HLC;show S3.lc <= _;simp;omega
  ·exact gg (((((Z ao).trans (Z ua)).trans (Z uD)).trans (Z vj)).trans (Z kT)) rfl rfl rfl rfl
theorem zNd_s:∀i,i<21->(Tryz.zeroCells252.toList.drop (2+i*8)).take 8=zNd.vs
 | 0,_=>by kernel_rfl
 | 1,_=>by kernel_rfl
 | 2,_=>by kernel_rfl
 | 3,_=>by kernel_rfl
 | 4,_=>by kernel_rfl
 | 5,_=>by kernel_rfl
 | 6,_=>by kernel_rfl
 | 7,_=>by kernel_rfl
 | 8,_=>by kernel_rfl
 | 9,_=>by kernel_rfl
 | 10,_=>by kernel_rfl
 | 11,_=>by kernel_rfl
 | 12,_=>by kernel_rfl
 | 13,_=>by kernel_rfl
 | 14,_=>by kernel_rfl
 | 15,_=>by kernel_rfl
 | 16,_=>by kernel_rfl
 | 17,_=>by kernel_rfl
 | 18,_=>by kernel_rfl
 | 19,_=>by kernel_rfl
 | 20,_=>by kernel_rfl
 | n+21,h=>absurd h (by omega)
theorem zQo_s:∀i,i<21->(Tryz.zeroCells252.toList.drop (171+i*7)).take 7=zQo.vs
 | 0,_=>by kernel_rfl
 | 1,_=>by kernel_rfl
 | 2,_=>by kernel_rfl
 | 3,_=>by kernel_rfl
 | 4,_=>by kernel_rfl
 | 5,_=>by kernel_rfl
 | 6,_=>by kernel_rfl
 | 7,_=>by kernel_rfl
 | 8,_=>by kernel_rfl
 | 9,_=>by kernel_rfl
 | 10,_=>by kernel_rfl
 | 11,_=>by kernel_rfl
 | 12,_=>by kernel_rfl
 | 13,_=>by kernel_rfl
 | 14,_=>by kernel_rfl
 | 15,_=>by kernel_rfl
 | 16,_=>by kernel_rfl
 | 17,_=>by kernel_rfl
 | 18,_=>by kernel_rfl
 | 19,_=>by kernel_rfl
 | 20,_=>by kernel_rfl
 | n+21,h=>absurd h (by omega)
theorem zTree_s (w:World)(sd:Int):dQ 252 false (w.alloc (Obj.cells Tryz.zeroCells252 252)) w.heap.size sd []:=
 ⟨zTS,.nil,tm_zero w _ _ (by kernel_rfl) (by kernel_rfl) zNd_s (by kernel_rfl) zQo_s,ti_zero _,qi_zero _,Nat.le_refl _⟩
theorem plant_s (v:Value)(l:List Od)(sd:Int)(w:World)(hr:RdR Od.vs 6 w v l)(hn:l.length<=20)(hl:∀o'∈l,0<=o'.left/\o'.left<=1000000) :
  Calls Tryz.prog 113 #[v,H sd] w fun e w' =>
   e=ym (yp w 0)/\dQ 252 false w' w.heap.size sd (zB l sd)/\yn w w':=by
 obtain⟨a,cap,rfl,xD,hc⟩:=hr
 have xp:∀(k:Nat) (c:Od),l[k]? = some c->∃b off,a=some (U b off)/\b<w.heap.size/\w.rangeAt b (off+k*6) c.vs:=by
  intro k c X;obtain⟨b,off,D,E,h3⟩:=hc (by intro h;rw[h] at X;simp at X);exact⟨b,off,D,E,h3 k c X⟩
 have HC:=Q xp;have HL:=Q hl;have HN:=Q hn;clear xp hc hl;have HZ:=Q (zTree_s w sd);have qe:Hid (yn w (w.alloc (Obj.cells Tryz.zeroCells252 252))):=lT _ _;go_enter Tryz.func113,Tryz.ntmps113;go_wp2_with fail;generalize (w.alloc (Obj.cells Tryz.zeroCells252 252))=W0 at HZ qe |-;go_loopw [11] (fun i wr=>∃k:Nat,k<=l.length/\i=H k/\dQ 252 false wr w.heap.size sd (zB (l.take k) sd)/\yn w wr) (fun i _=>l.length-(intOf i).toNat)
 case atStart=>exact⟨0,Nat.zero_le _,rfl,Z HZ,Z qe⟩
 case round =>
  obtain⟨k,X,rfl,htr,xk⟩:=hrel;have aE:=Q htr;have uH:=Q xk;clear htr xk HZ qe
  by_cases xH:k<l.length
  ·obtain⟨c,qk⟩:∃c,l[k]? = some c:=⟨_,yH xH⟩;have aB:=Q qk;obtain⟨b,off,rfl,A,xm⟩:=Z HC k c qk;obtain⟨g0,g1,g2,g3,g4,g5⟩:=zM (zd xm (Z uH) A);have uq:(k:Int)<l.length:=by omega
   clear qk xm A
   by_cases vh:c.side=sd
   ·have HIT:Hid (zB (l.take (k+1)) c.side=zB (l.take k) c.side ++ [c]):=ofSide_snoc l k c (Z aB);subst vh
    have vC:(zB (l.take k) c.side).length<20:=by
     have D:(zB (l.take k) c.side).length<=(l.take k).length:=List.length_filter_le _ _;have E:(l.take k).length<=k:=List.length_take_le _ _;have h3:=Z HN;omega
    have ak:=Q vC;have xm:=Z HL c (yO (Z aB));have bI:=Q xm;clear vC xm;go_wp2_with fail;refine(add_s w.heap.size c.side (zB (l.take k) c.side) c _ (zH (Z aE) (Below.heap_alloc wr _ _ (zZ (Z aE)))) rfl (Z ak) (fun o' qF=>Z HL o' (List.mem_of_mem_take (List.mem_filter.1 qF).1)) (Z bI)).mono ?_;rintro e w2 ⟨rfl,cI,uZ⟩;rw[<- Z HIT] at cI;have bW:=Q cI;have xq:=Q (((Z uH).alloc (Z uH).size _).grown uZ (by rw[zh];have:=(Z uH).size;omega) (fun g M=>by obtain rfl:=Option.some.inj M;exact Nat.le_refl _));clear cI uZ;go_wp2_with fail;go_roundw
    case rel=>exact⟨k+1,by omega,by go_num,Z bW,Z xq⟩
    case measure=>simp[intOf];omega
   ·have HIT:Hid (zB (l.take (k+1)) sd=zB (l.take k) sd):=ofSide_skip l k c (Z aB) vh;go_wp2_with fail;go_roundw
    case rel =>
     refine⟨k+1,by omega,by go_num,?_,?_⟩
     ·rw[Z HIT];exact zH (Z aE) (Below.heap_alloc wr _ _ (zZ (Z aE)))
     ·exact(Z uH).alloc (Z uH).size _
    case measure=>simp[intOf];omega
  ·go_wp2_with fail;go_ret;have h:=Z aE;rw[yZ (by omega)] at h;exact⟨rfl,h,Z uH⟩
theorem infoH_s:(Tryz.prog.info? 239).map (fun i=>(i.zero,i.size,i.bytes))=some (some (H 0),1,8):=by kernel_rfl
theorem cellsH_s (w:World)(cs:List Value)(t:TypeId)(j:Nat)(u:Value)(h:cs[j]? = some u):(w.alloc (Obj.cells cs.toArray t)).cell? (((yq w 0):Addr).add j)=some u:=by
 rw[Addr.add_mid,cell_of_row _ w.heap.size (0+j) cs.toArray t (0,0) (heap_alloc_new w _)];simpa using h
def hval_s (h:Nat):Value:=H h
theorem ranked_s (S:TS)(b B:Nat)(dj:b<B):∀(t:Tr) (w:World) (v:Value) (done:List Nat) (part:Nat),TM 252 w b S->Rep S.nd t part->(∀h∈t.hs,h<21)->B<=w.heap.size ->
  w.ownsRow B 239 1 v done.length (done.map hval_s)->done.length+t.hs.length<=1000 ->
  Calls Tryz.prog 198 #[xj b 0,v,H part] w fun e w' =>
   ∃v',e=ym v'/\w'.ownsRow B 239 1 v' (done++t.hs).length ((done++t.hs).map hval_s)/\Below B w w'
 | .nil,w,v,done,part,hT,hrep,hh,hB,xL,xD=>by
  obtain rfl:part=0:=hrep;have HO:=Q xL;clear xL hT hh;go_enter Tryz.func198,Tryz.ntmps198;go_wp2_with fail;go_ret;exact⟨v,rfl,by simpa[Tr.hs] using Z HO,Below.refl _ _⟩
 | .node h l r,w,v,done,part,hT,hrep,hh,hB,xL,xD=>by
  obtain⟨rfl,h0,hl,hr⟩:=hrep;have HO:=Q xL;have HT:=Q hT;have HL:=Q hl;have HR:=Q hr;have aP:done.length+(l.hs.length+1+r.hs.length)<=1000:=by simp[Tr.hs] at xD;omega
  have qU:=hh part (by simp[Tr.hs]);have HHL:=Q (fun a (ha:a∈l.hs)=>hh a (by simp[Tr.hs,ha]));have HHR:=Q (fun a (ha:a∈r.hs)=>hh a (by simp[Tr.hs,ha]));have h21':(part:Int)<21:=by omega
  have h0':¬ ((part:Int)=0):=by omega
  have oE:=Q aP;obtain⟨-,-,-,-,n4,-⟩:=zS (hT.nd part qU);obtain⟨i0,hi,uE,uw,uC⟩:=info_parts infoH_s;clear xL hT hh hl hr xD aP;go_enter Tryz.func198,Tryz.ntmps198;go_wp2_with fail;refine(ranked_s S b B dj l w v done _ (Z HT) (Z HL) (Z HHL) hB (Z HO) (by have:=Z oE;omega)).mono ?_;rintro e w1 ⟨v1,rfl,jQ,xR⟩;have pp:=Q jQ;have ud:=Q xR;have hsz1:=xR.size;have hla:(done++l.hs).length<=999:=by have:=Z oE;rw[yP];omega
  obtain⟨-,-,-,-,-,n5,-⟩:=zS ((gN (Z HT) xR dj).nd part qU);clear jQ xR n4;go_wp2_with (at_builtin;go_must (refine wpList_append_own _ rfl _ _ 267 rfl B 239 i0 _ 1 8 Tryz.underlying267 hi uE uw uC rfl (by decide) v1 (done++l.hs).length ((done++l.hs).map hval_s) rfl ((Z pp).alloc _) (yq w1 0) 1 1 [hval_s part] rfl rfl (cellsH_s w1 _ _) (by simp[Value.oneCell',hval_s]) (by unfold maxLen;omega) (by omega) (by simp at hla |-;omega) ?_);intro v2 w2 aQ uZ _;have pQ:=Q aQ;have xq:=Q (((Z ud).alloc (yN hB hsz1) _).grown uZ (by rw[zh];omega) (fun k X=>((Z pp).lt k X).1));have m5:=(zS ((gN (Z HT) (Z xq) dj).nd part qU)).2.2.2.2.2.1;clear aQ uZ n5)
  have hsz2:=(Z xq).size;refine(ranked_s S b B dj r w2 v2 (done++l.hs ++ [part]) _ (gN (Z HT) (Z xq) dj) (Z HR) (Z HHR) (by omega) (by simpa[Nat.add_assoc] using Z pQ) (by have:=Z oE;simp;omega)).mono ?_;rintro e w3 ⟨v3,rfl,pI,xN⟩;have bd:=Q pI;have xZ:=Q ((Z xq).trans xN);clear pI xN m5;go_wp2_with fail;go_ret;exact⟨v3,rfl,by simpa[Tr.hs] using Z bd,Z xZ⟩
theorem infoLv_s:(Tryz.prog.info? 241).map (fun i=>(i.zero,i.size,i.bytes))=some (some (.agg #[H 0,H 0,H 0,H 0]),4,32):=by kernel_rfl
theorem takeR_s {α:Type}(l:List α)(k:Nat)(c:α)(h:l[k]? = some c):l.take (k+1)=l.take k ++ [c]:=by
 obtain⟨X,rfl⟩:=yG.1 h;rw[List.take_succ_eq_append_getElem X]
theorem rowBase_s {W:World}{B B':Nat}{e:TypeId}{sz:Nat}{v:Value}{n:Nat}{xs:List Value}(h:W.ownsRow B e sz v n xs)(hB:B'<=B):W.ownsRow B' e sz v n xs:=
 ⟨h.1,by
  rcases h.2 with D|⟨g',c',xr,D,E,h3⟩
  ·exact .inl D
  ·exact .inr ⟨g',c',xr,D,yN hB E,h3⟩⟩
theorem flat1_s (l:List Nat):(l.flatMap fun h=>[hval_s h])=l.map hval_s:=by
 induction l with
 | nil=>rfl
 | cons a r ih=>rw[List.flatMap_cons,ih];rfl
theorem levelsO_s (b:Nat)(sd:Int)(seq:List Od)(w:World)(h:dQ 252 false w b sd seq)(hn:seq.length<=20) :
  Calls Tryz.prog 162 #[xj b 0] w fun e w' =>
   ∃v',e=ym v'/\w'.ownsRow w.heap.size 241 4 v' (dX false sd seq).length ((dX false sd seq).flatMap Lv.vs)/\yn w w':=by
 obtain⟨S,t,hT,hi,hq,jC⟩:=h;have hlv:=lo hi hq;rw[<- hlv];have jY:∀a∈t.hs,a<21:=fun a ha=>by have:=(hi.range a ha).2;omega
 have xD:t.hs.length<=20:=by rw[hi.len];omega
 have HT:=Q hT;have HR:=Q hi.rep;have HH:=Q jY;have oU:=hT.root;have aL:=tm_lt hT;generalize ht:t.hs=hs at *;have HHS:=Q ht;have HNIL:=Q (World.ownsRow_nil w w.heap.size 239 1);obtain⟨i0,vA,uE,uw,uC⟩:=info_parts infoLv_s;clear hi hq jC hlv hT jY ht;go_enter Tryz.func162,Tryz.ntmps162;go_wp2_with fail;refine(ranked_s S b w.heap.size aL t w _ [] S.root (Z HT) (Z HR) (by rw[Z HHS];exact Z HH) ya (Z HNIL) (by rw[Z HHS];simp;omega)).mono ?_;rintro e w1 ⟨v1,rfl,jQ,xR⟩;rw[List.nil_append,Z HHS] at jQ;have ud:=Q xR;have HOR:=Q (gh (f:=fun h=>[hval_s h]) (fun _=>rfl) (by omega) (show w1.ownsRow w.heap.size 239 1 v1 hs.length (hs.flatMap fun h=>[hval_s h]) by rw[flat1_s];exact jQ));obtain⟨a,cap,rfl,_,hc⟩:=Z HOR
 have xp:∀k h,hs[k]? = some h->∃g,a=some (U g 0)/\g<w1.heap.size/\w1.cell? (U g (0+k*1+0))=some (H (h:Nat)):=fun k h X=>by
  obtain⟨g,D,_,h3,h4,_⟩:=hc (by intro e;rw[e] at X;simp at X);exact⟨g,D,h3,h4 k h X 0 _ rfl⟩
 have HC:=Q xp;clear jQ xR hc xp oU;go_wp2_with fail;have xR:=(Z ud).size;go_loopw [3,13] (fun ov iv wr=>∃(k:Nat) (done:List Lv),k<=hs.length/\iv=H k/\Hid (done=(hs.map fun h=>(S.nd h).lv).take k)/\wr.ownsRow w1.heap.size 241 4 ov done.length (done.flatMap Lv.vs)/\yn w1 wr) (fun _ iv _=>hs.length-(intOf iv).toNat)
 case atStart=>exact⟨0,[],Nat.zero_le _,rfl,by simp[Hid],World.ownsRow_nil _ _ _ _,Below.refl _ _⟩
 case round =>
  obtain⟨k,done,X,rfl,hd,xL,xk⟩:=hrel;have jy:=Q xL;have HB:=Q xk;have cx:done.length=k:=by rw[Z hd,List.length_take,List.length_map];omega
  clear xL xk
  by_cases xH:k<hs.length
  ·obtain⟨h,hkh⟩:∃h,hs[k]? = some h:=⟨_,yH xH⟩;have aB:Hid ((hs.map fun h=>(S.nd h).lv)[k]? = some (S.nd h).lv):=by show _ = _;rw[List.getElem?_map,hkh];rfl
   obtain⟨g,rfl,M,xm⟩:=Z HC k h hkh;have qU:=Z HH h (yO hkh);have h21':(h:Int)<21:=by omega
   have kL:=((Z HB).cell (p:=(U g (0+k*1+0))) M).trans xm;rw[show 0+k*1+0=k by omega] at kL;have hTr:=gN (Z HT) ((Z ud).trans ((Z HB).mono xR)) aL;obtain⟨n0,n1,n2,n3,-⟩:=zS (hTr.nd h qU);have uq:(k:Int)<hs.length:=by omega
   have hsr:=(Z HB).size;clear hkh xm hTr M;go_wp2_with (at_builtin;go_must (refine wpList_append_own _ rfl _ _ 183 rfl w1.heap.size 241 i0 _ 4 32 Tryz.underlying183 vA uE uw uC rfl (by decide) _ done.length (done.flatMap Lv.vs) rfl ((Z jy).alloc _) (yq wr 0) 1 1 (S.nd h).lv.vs rfl rfl (cellsH_s wr _ _) (by simp[Value.oneCell',Lv.vs,Nd.lv]) (by unfold maxLen;omega) (by omega) (by simp;omega) ?_);intro v4 w4 pJ dw _);go_roundw
   case rel =>
    refine⟨k+1,done ++ [(S.nd h).lv],by omega,by go_num,?_,?_,?_⟩
    ·show done ++ [(S.nd h).lv] = _;rw[takeR_s _ k _ (Z aB),<- Z hd]
    ·simpa using pJ
    ·exact((Z HB).alloc hsr _).grown dw (by simp;omega) fun k X=>((Z jy).lt k X).1
   case measure=>simp[intOf];omega
  ·go_wp2_with fail;go_ret;have h:=Z hd;rw[yZ (by rw[List.length_map];omega)] at h;subst h;exact⟨_,rfl,rowBase_s (Z jy) xR,(Z ud).trans ((Z HB).mono xR)⟩
theorem levels_s (b:Nat)(sd:Int)(seq:List Od)(w:World)(h:dQ 252 false w b sd seq)(hn:seq.length<=20) :
  Calls Tryz.prog 162 #[xj b 0] w fun e w' =>
   ∃v',e=ym v'/\OwnR Lv.vs 4 w.heap.size w' v' (dX false sd seq)/\yn w w':=by
 have xD:(dX false sd seq).length<=20:=by
  obtain⟨S,t,hT,hi,hq,jC⟩:=h;rw[<- lo hi hq,List.length_map,hi.len];omega
 refine(levelsO_s b sd seq w h hn).mono ?_;rintro e w' ⟨v',rfl,K,A⟩;exact⟨v',rfl,gh Lv.len (by omega) K,A⟩
theorem best_s {S:TS}:∀ {t:Tr} {v:Nat},Rep S.nd t v->t ≠ .nil->v∈t.hs/\((S.nd v).be=0->t.hs.head? = some v)/\((S.nd v).be≠0->∃l,Rep S.nd l (S.nd v).be/\l ≠ .nil/\l.hs.head? = t.hs.head?/\l.hs.length<t.hs.length/\∀a∈l.hs,a∈t.hs)
 | .nil,_,_,h=>absurd rfl h
 | .node h l r,v,⟨e,h0,D,E⟩,_=>by
  subst e;refine⟨by simp[Tr.hs],fun A=>?_,fun A=>⟨l,D,?_,?_,?_,fun a ha=>by simp[Tr.hs,ha]⟩⟩
  ·rw[A] at D;obtain rfl:=rep_nil D;rfl
  ·rintro rfl;exact A D
  ·cases l with
   | nil=>exact absurd D A
   | node a l' r'=>simp[Tr.hs]
  ·simp[Tr.hs]
def FrI_s (S:TS)(hd:Option Nat)(w0:World)(k:Nat)(p:Value)(wr:World):Prop:=∃(t:Tr) (v:Nat),p=H v/\Rep S.nd t v/\t ≠ .nil/\t.hs.head? = hd/\t.hs.length<=k/\(∀a∈t.hs,a<21)/\w0=wr
theorem front_s (b:Nat)(sd:Int)(seq:List Od)(w:World)(h:dQ 252 false w b sd seq)(hn:seq.length<=20) :
  Calls Tryz.prog 160 #[xj b 0] w fun e w'=>e=ym (frOf (quOf false seq))/\yn w w':=by
 obtain⟨S,t,hT,hi,hq,jC⟩:=h;have hou:=tree_orders hi hq;have jY:∀a∈t.hs,a<21:=fun a ha=>by have:=(hi.range a ha).2;omega
 have HT:=Q hT;have oU:=hT.root;have aL:=tm_lt hT
 by_cases ks:S.root=0
 ·have ht:=hi.rep;rw[ks] at ht oU;obtain rfl:=rep_nil ht;have HF:Hid (frOf (quOf false seq) = .tuple #[zOdv,.bool false]):=by show _ = _;rw[<- hou];rfl
  clear hi hq jC hou hT ht jY;go_enter Tryz.func160,Tryz.ntmps160;go_wp2_with fail;go_returns;refine⟨by rw[Z HF];rfl,?_⟩;go_grown
 ·have xy:t ≠ .nil:=by rintro rfl;exact ks hi.rep
  have HI:=Q hi;have HQ:=Q hq;have HOU:=Q hou;have HH:=Q jY;have HNE:=Q xy;have hr0':¬ ((S.root:Int)=0):=by omega
  clear hi hq jC hou hT jY xy;go_enter Tryz.func160,Tryz.ntmps160;go_wp2_with fail
  go_loopg [4] (t.hs.length) (fun k p wr=>FrI_s S t.hs.head? (w.alloc (J (yw 0 0 0 0 0 ⟨#[]⟩).toArray 98)) k p wr)
  case atStart=>exact⟨t,S.root,rfl,(Z HI).rep,Z HNE,rfl,Nat.le_refl _,Z HH,rfl⟩
  case round =>
   obtain⟨t1,v,rfl,D,E,h3,h4,h5,rfl⟩:=hrel;obtain⟨b1,b2,b3⟩:=best_s D E;have hv21:=h5 v b1;have hv21':(v:Int)<21:=by omega
   have pV:=eH (Z HT) (Below.heap_alloc w (J (yw 0 0 0 0 0 ⟨#[]⟩).toArray 98) b aL);obtain⟨-,-,-,-,n4,-,n6,-⟩:=zS (pV.nd v hv21);have H3:=Q h3;have H4:=Q h4;have H5:=Q h5
   by_cases pf:(S.nd v).be=0
   ·have aN:=b2 pf;rw[h3] at aN;have hvm:v∈t.hs:=List.mem_of_head? aN;have hQ:=(Z HQ).q v hvm
    obtain⟨e,rest,hqs⟩:∃e rest,qs seq (S.nd v).ticks=e::rest:=by
     cases hqq:qs seq (S.nd v).ticks with
     | nil=>exact absurd hqq hQ.ne
     | cons e rest=>exact⟨e,rest,rfl⟩
    have hch:=hQ.chain;rw[hqs] at hch;obtain⟨he,he0,-⟩:=hch
    have he21:e<21:=by
     have:=(fD (S.nd v).ticks seq 1 e (by have h:e∈qs seq (S.nd v).ticks:=(by rw[hqs];simp);exact h)).2.1
     omega
    have he21':(e:Int)<21:=by omega
    have HF:Hid (frOf (quOf false seq) = .tuple #[(S.qo e).od.val,.bool true]):=by
     show _ = _;rw[<- Z HOU]
     obtain⟨tl,htl⟩:∃tl,t.hs=v::tl:=by
      cases hh:t.hs with
      | nil=>rw[hh] at aN;simp at aN
      | cons a r=>rw[hh] at aN;simp at aN;rw[aN];exact⟨r,rfl⟩
     rw[htl,List.flatMap_cons,hqs];rfl
    obtain⟨q0,q1,q2,q3,q4,q5,-⟩:=iG (pV.qo e he21);rw[he] at n6;rw[pf] at n4;clear D E h3 h4 h5 b1 b2 b3 pV aN hvm hQ hqs he pf;go_wp2_with fail
    go_region
    go_wp2_with fail;go_returns;refine⟨by rw[Z HF];rfl,?_⟩;go_grown
   ·obtain⟨l,l1,l2,l3,l4,l5⟩:=b3 pf;have hbe':¬ (((S.nd v).be:Int)=0):=by omega
    have HL:Hid (Rep S.nd l (S.nd v).be/\l ≠ .nil/\l.hs.head? = t1.hs.head?/\l.hs.length<t1.hs.length/\∀a∈l.hs,a∈t1.hs):=⟨l1,l2,l3,l4,l5⟩;clear D E h3 h4 h5 b1 b2 b3 pV l1 l2 l3 l4 l5 pf;go_wp2_with fail
    go_roundg (l.hs.length)
    case measure=>have:=Z H4;have:=(Z HL).2.2.2.1;omega
    case rel=>exact⟨l,_,rfl,(Z HL).1,(Z HL).2.1,(Z HL).2.2.1.trans (Z H3),Nat.le_refl _,fun a ha=>Z H5 a ((Z HL).2.2.2.2 a ha),rfl⟩
def fq (b:Nat):Value:=.agg #[.func (.func 160) #[xj b 0] #[],.func (.func 161) #[xj b 0] #[],.func (.func 162) #[xj b 0] #[]]
theorem ask_s (b:Nat)(w:World) :
  Calls Tryz.prog 112 #[xj b 0] w fun e w'=>e=ym (fq b)/\yn w w':=by
 have hmf:∀(fn:Fn) (first cap:Array Value) (w:World),(Instr.makeFunc fn first cap).run Tryz.prog w = .ok (.func fn first cap) w:=fun _ _ _ _=>rfl;go_enter Tryz.func112,Tryz.ntmps112;go_wp2_with fail;go_returns;refine⟨rfl,?_⟩;go_grown
end Go.Proofs.YtbghmldggahjiaaGreatDoor
