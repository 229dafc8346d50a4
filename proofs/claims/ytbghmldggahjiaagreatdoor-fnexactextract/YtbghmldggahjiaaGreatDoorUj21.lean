/-.-/
import Derived.Test.YtbghmldggahjiaaGreatDoorUj20
import Derived.Deep.RegionHeld3
set_option linter.unusedVariables false
set_option maxHeartbeats 6400000
set_option maxRecDepth 100000
namespace Go.Proofs.YtbghmldggahjiaaGreatDoor
open Go.RowKit
def lifW (c:Cm):Bool:=!betB c.l 0 1||(decide (c.l=1) && !dP c.t)
def newR (next:Int)(l:List Od)(c:Cm):Int:=
 if betB c.s 1 2=false then 3 else if betB c.t 1 5=false then 4 else if lifW c=true then 5 else if prcB c=false then 6 else if betB c.q 1 1000000=false then 7 else if tagB c.g=false then 8 else matR next c (matL c next 21 l c.q [])
theorem newRefusal_any (next:Int)(vb:Value)(l:List Od)(c:Cm)(w:World)(hr:RdR Od.vs 6 w vb l)(hs:SlOk vb)(M:GoodL l)(h0:0<=next)(D:next<=1000000)(ht:c.g.size<=maxLen) :
  Calls Tryz.prog 133 #[.agg #[H next,vb],noV c] w fun e w'=>e=ym (H (newR next l c))/\yn w w':=by
 have HR:=Q hr;have HG:=Q M;have jS:=Q hs;have qu:Hid (0<=next/\next<=1000000):=⟨h0,D⟩;have HTG:=Q ht;obtain⟨a,cap,rfl,xD,hc⟩:=hr;clear hc M hs h0 D ht xD;generalize hres:newR next l c=res;have HN0:Hid (_ = res):=hres;clear hres;obtain⟨kk,s,ty,li,qt,ii,pr,tg⟩:=c;unfold newR at HN0;unfold noV;simp only at *;have xI:=zh w (J #[H next,.slice a l.length cap] 41);have uc:((w.alloc (J #[H next,.slice a l.length cap] 41)).alloc (J #[H s,H ty,H li,H qt,yj pr,yk tg] 96)).heap.size=w.heap.size+1+1:=by rw[zh,xI]
 have r1:=zo w [H next,.slice a l.length cap] 41;have r2:=zo (w.alloc (J #[H next,.slice a l.length cap] 41)) [H s,H ty,H li,H qt,yj pr,yk tg] 96;rw[xI] at r2;have jp:Below (w.heap.size+1) (w.alloc (J #[H next,.slice a l.length cap] 41)) ((w.alloc (J #[H next,.slice a l.length cap] 41)).alloc (J #[H s,H ty,H li,H qt,yj pr,yk tg] 96)):=(Below.refl _ _).alloc (by rw[xI];omega) _;have xq:Hid (yn w ((w.alloc (J #[H next,.slice a l.length cap] 41)).alloc (J #[H s,H ty,H li,H qt,yj pr,yk tg] 96))):=(lT _ _).alloc (by rw[xI];omega) _;have HX:Hid (_/\_):=⟨zd r1 jp (by omega),r2⟩;have ug:Hid (w.heap.size<((w.alloc (J #[H next,.slice a l.length cap] 41)).alloc (J #[H s,H ty,H li,H qt,yj pr,yk tg] 96)).heap.size/\w.heap.size+1<((w.alloc (J #[H next,.slice a l.length cap] 41)).alloc (J #[H s,H ty,H li,H qt,yj pr,yk tg] 96)).heap.size):=⟨by omega,by omega⟩;clear xI uc r1 r2 jp;go_enter Tryz.func133,Tryz.ntmps133;refine lX fun ho xV=>?_;go_wp2_with fail;refine Z xV _ _ ?_;clear xV;generalize ((w.alloc (J #[H next,.slice a l.length cap] 41)).alloc (J #[H s,H ty,H li,H qt,yj pr,yk tg] 96))=X2 at xq HX ug |-;have HX:Hid (X2.rangeAt w.heap.size 0 [H next,.slice a l.length cap]/\X2.rangeAt (w.heap.size+1) 0 [H s,H ty,H li,H qt,yj pr,yk tg]):=Z HX;have k0:=zd (Z HX).1 (Below.refl _ _) (Z ug).1 0 _ rfl;have k1:=zd (Z HX).1 (Below.refl _ _) (Z ug).1 1 _ rfl;have o0:=zd (Z HX).2 (Below.refl _ _) (Z ug).2 0 _ rfl;have o1:=zd (Z HX).2 (Below.refl _ _) (Z ug).2 1 _ rfl;have o2:=zd (Z HX).2 (Below.refl _ _) (Z ug).2 2 _ rfl;have o3:=zd (Z HX).2 (Below.refl _ _) (Z ug).2 3 _ rfl;have o4:=zd (Z HX).2 (Below.refl _ _) (Z ug).2 4 _ rfl;have o5:=zd (Z HX).2 (Below.refl _ _) (Z ug).2 5 _ rfl;simp only[Nat.zero_add] at k0 k1 o0 o1 o2 o3 o4 o5;go_wp2_with fail;refine(isSide_any s X2).mono ?_;rintro e w' ⟨rfl,rfl⟩;cases h3:betB s 1 2
 ·have HK:Hid (3=res):=by have:=Z HN0;rw[if_pos h3] at this;exact this
  clear h3;go_wp2_with fail;go_ret;exact⟨zt (Z HK),Z xq⟩
 have HN1:Hid (_ = res):=(if_neg (fun h=>by rw[h3] at h;cases h)).symm.trans (Z HN0);clear h3 HN0;go_wp2_with fail;refine(isType_any ty w').mono ?_;rintro e w1 ⟨rfl,rfl⟩;cases h4:betB ty 1 5
 ·have HK:Hid (4=res):=by have:=Z HN1;rw[if_pos h4] at this;exact this
  clear h4;go_wp2_with fail;go_ret;exact⟨zt (Z HK),Z xq⟩
 have HN2:Hid (_ = res):=(if_neg (fun h=>by rw[h4] at h;cases h)).symm.trans (Z HN1);clear h4 HN1;go_wp2_with fail;refine(isLife_any li w1).mono ?_;rintro e w2 ⟨rfl,rfl⟩;cases h5:betB li 0 1
 ·have HK:Hid (5=res):=by have:=Z HN2;rw[if_pos (by simp[lifW,h5])] at this;exact this
  clear h5;go_wp2_with fail;go_ret;exact⟨zt (Z HK),Z xq⟩
 by_cases hli:li=1
 ·subst hli;go_wp2_with fail;refine(iC ⟨kk,s,ty,1,qt,ii,pr,tg⟩ w2).mono ?_;rintro e w3 ⟨rfl,xN⟩;dsimp only;have xM:=Q xN;clear xN k0 k1 o0 o1 o2 o3 o4 o5;cases h6:dP ty
  ·have HK:Hid (5=res):=by have:=Z HN2;rw[if_pos (by simp[lifW,h6])] at this;exact this
   clear h6 h5;go_wp2_with fail;go_ret;exact⟨zt (Z HK),(Z xq).trans ((Z xM).mono (Z xq).size)⟩
  have bO:Hid (_ = res):=(if_neg (by simp[lifW,h5,h6])).symm.trans (Z HN2);clear h5 h6 HN2;have k0:=zd (Z HX).1 (Z xM) (Z ug).1 0 _ rfl;have k1:=zd (Z HX).1 (Z xM) (Z ug).1 1 _ rfl;have o0:=zd (Z HX).2 (Z xM) (Z ug).2 0 _ rfl;have o1:=zd (Z HX).2 (Z xM) (Z ug).2 1 _ rfl;have o2:=zd (Z HX).2 (Z xM) (Z ug).2 2 _ rfl;have o3:=zd (Z HX).2 (Z xM) (Z ug).2 3 _ rfl;have o4:=zd (Z HX).2 (Z xM) (Z ug).2 4 _ rfl;have o5:=zd (Z HX).2 (Z xM) (Z ug).2 5 _ rfl;simp only[Nat.zero_add] at k0 k1 o0 o1 o2 o3 o4 o5;go_wp2_with fail;refine(hasPrice_any ⟨kk,s,ty,1,qt,ii,pr,tg⟩ w3).mono ?_;rintro e w4 ⟨rfl,xz⟩;have xK:=Q (lW (Z xM) xz);clear xz k0 k1 o0 o1 o2 o3 o4 o5 xM;cases h7:prcB ⟨kk,s,ty,1,qt,ii,pr,tg⟩
  ·have HK:Hid (6=res):=by have:=Z bO;rw[if_pos h7] at this;exact this
   clear h7;go_wp2_with fail;go_ret;exact⟨zt (Z HK),(Z xq).trans ((Z xK).mono (Z xq).size)⟩
  have HN4:Hid (_ = res):=(if_neg (fun h=>by rw[h7] at h;cases h)).symm.trans (Z bO);clear h7 bO;have k0:=zd (Z HX).1 (Z xK) (Z ug).1 0 _ rfl;have k1:=zd (Z HX).1 (Z xK) (Z ug).1 1 _ rfl;have o0:=zd (Z HX).2 (Z xK) (Z ug).2 0 _ rfl;have o1:=zd (Z HX).2 (Z xK) (Z ug).2 1 _ rfl;have o2:=zd (Z HX).2 (Z xK) (Z ug).2 2 _ rfl;have o3:=zd (Z HX).2 (Z xK) (Z ug).2 3 _ rfl;have o4:=zd (Z HX).2 (Z xK) (Z ug).2 4 _ rfl;have o5:=zd (Z HX).2 (Z xK) (Z ug).2 5 _ rfl;simp only[Nat.zero_add] at k0 k1 o0 o1 o2 o3 o4 o5;go_wp2_with fail;refine(isQty_any qt w4).mono ?_;rintro e w5 ⟨rfl,rfl⟩;cases h8:betB qt 1 1000000
  ·have HK:Hid (7=res):=by have:=Z HN4;rw[if_pos h8] at this;exact this
   clear h8;go_wp2_with fail;go_ret;exact⟨zt (Z HK),(Z xq).trans ((Z xK).mono (Z xq).size)⟩
  have HN5:Hid (_ = res):=(if_neg (fun h=>by rw[h8] at h;cases h)).symm.trans (Z HN4)
  have HQB:Hid (0<=qt/\qt<=1000000):=by
   simp only[betB,xe,xf] at h8;exact⟨by omega,h8.2⟩
  clear h8 HN4;go_wp2_with fail;refine(isTag_any tg w5 (Z HTG)).mono ?_;rintro e w6 ⟨rfl,rfl⟩;cases h9:tagB tg
  ·have HK:Hid (8=res):=by have:=Z HN5;rw[if_pos h9] at this;exact this
   clear h9;go_wp2_with fail;go_ret;exact⟨zt (Z HK),(Z xq).trans ((Z xK).mono (Z xq).size)⟩
  have HN6:Hid (_ = res):=(if_neg (fun h=>by rw[h9] at h;cases h)).symm.trans (Z HN5);clear h9 HN5;go_wp2_with fail;refine(lN next _ l ⟨kk,s,ty,1,qt,ii,pr,tg⟩ w6 (zq (Z HR) ((Z xq).trans ((Z xK).mono (Z xq).size)) ya) (Z jS) (Z HG) (Z qu).1 (Z qu).2 (Z HQB).1 (Z HQB).2).mono ?_;dsimp only;rw[Z HN6];rintro e w7 ⟨rfl,qQ⟩;have kA:=Q (((Z xq).trans ((Z xK).mono (Z xq).size)).trans (qQ.mono ((Z xq).trans ((Z xK).mono (Z xq).size)).size));clear qQ;go_wp2_with fail;go_ret;exact⟨rfl,Z kA⟩
 have hlb:(li==1)=false:=by rw[xd];exact hli
 have bO:Hid (_ = res):=(if_neg (by simp[lifW,h5,hli])).symm.trans (Z HN2);have xM:Hid (yn w2 w2):=Below.refl _ _;clear h5 hli HN2;go_wp2_with fail;refine(hasPrice_any ⟨kk,s,ty,li,qt,ii,pr,tg⟩ w2).mono ?_;rintro e w4 ⟨rfl,xz⟩;have xK:=Q (lW (Z xM) xz);clear xz k0 k1 o0 o1 o2 o3 o4 o5 xM;cases h7:prcB ⟨kk,s,ty,li,qt,ii,pr,tg⟩
 ·have HK:Hid (6=res):=by have:=Z bO;rw[if_pos h7] at this;exact this
  clear h7;go_wp2_with fail;go_ret;exact⟨zt (Z HK),(Z xq).trans ((Z xK).mono (Z xq).size)⟩
 have HN4:Hid (_ = res):=(if_neg (fun h=>by rw[h7] at h;cases h)).symm.trans (Z bO);clear h7 bO;have k0:=zd (Z HX).1 (Z xK) (Z ug).1 0 _ rfl;have k1:=zd (Z HX).1 (Z xK) (Z ug).1 1 _ rfl;have o0:=zd (Z HX).2 (Z xK) (Z ug).2 0 _ rfl;have o1:=zd (Z HX).2 (Z xK) (Z ug).2 1 _ rfl;have o2:=zd (Z HX).2 (Z xK) (Z ug).2 2 _ rfl;have o3:=zd (Z HX).2 (Z xK) (Z ug).2 3 _ rfl;have o4:=zd (Z HX).2 (Z xK) (Z ug).2 4 _ rfl;have o5:=zd (Z HX).2 (Z xK) (Z ug).2 5 _ rfl;simp only[Nat.zero_add] at k0 k1 o0 o1 o2 o3 o4 o5;go_wp2_with fail;refine(isQty_any qt w4).mono ?_;rintro e w5 ⟨rfl,rfl⟩;cases h8:betB qt 1 1000000
 ·have HK:Hid (7=res):=by have:=Z HN4;rw[if_pos h8] at this;exact this
  clear h8;go_wp2_with fail;go_ret;exact⟨zt (Z HK),(Z xq).trans ((Z xK).mono (Z xq).size)⟩
 have HN5:Hid (_ = res):=(if_neg (fun h=>by rw[h8] at h;cases h)).symm.trans (Z HN4)
 have HQB:Hid (0<=qt/\qt<=1000000):=by
  simp only[betB,xe,xf] at h8;exact⟨by omega,h8.2⟩
 clear h8 HN4;go_wp2_with fail;refine(isTag_any tg w5 (Z HTG)).mono ?_;rintro e w6 ⟨rfl,rfl⟩;cases h9:tagB tg
 ·have HK:Hid (8=res):=by have:=Z HN5;rw[if_pos h9] at this;exact this
  clear h9;go_wp2_with fail;go_ret;exact⟨zt (Z HK),(Z xq).trans ((Z xK).mono (Z xq).size)⟩
 have HN6:Hid (_ = res):=(if_neg (fun h=>by rw[h9] at h;cases h)).symm.trans (Z HN5);clear h9 HN5;go_wp2_with fail;refine(lN next _ l ⟨kk,s,ty,li,qt,ii,pr,tg⟩ w6 (zq (Z HR) ((Z xq).trans ((Z xK).mono (Z xq).size)) ya) (Z jS) (Z HG) (Z qu).1 (Z qu).2 (Z HQB).1 (Z HQB).2).mono ?_;dsimp only;rw[Z HN6];rintro e w7 ⟨rfl,qQ⟩;have kA:=Q (((Z xq).trans ((Z xK).mono (Z xq).size)).trans (qQ.mono ((Z xq).trans ((Z xK).mono (Z xq).size)).size));clear qQ;go_wp2_with fail;go_ret;exact⟨rfl,Z kA⟩
def idR (l:List Od)(id:Int):Int:=if plc l id<0 then 9 else 0
def redR (l:List Od)(id qty:Int):Int:=if betB qty 1 1000000=true then(if plc l id<0 then 9 else match l[(plc l id).toNat]? with|some o=>if o.left<=qty then 10 else 0|none=>0) else 7
theorem iZ (l:List Od)(id:Int):plc l id = -1 \/ ∃(k:Nat) (o:Od),plc l id=k/\l[k]? = some o:=by
 rcases plcF_spec id l 0 with⟨D,_⟩|⟨i,o,D,E,_⟩
 ·exact .inl D
 ·exact .inr ⟨i,o,by rw[plc,D];congr 1;omega,E⟩
theorem idRefusal_any (next:Int)(v:Value)(l:List Od)(id:Int)(w:World)(hr:RdR Od.vs 6 w v l) :
  Calls Tryz.prog 134 #[.agg #[H next,v],H id] w fun e w'=>e=ym (H (idR l id))/\yn w w':=by
 have HR:=Q hr;obtain⟨a,cap,rfl,xD,hc⟩:=hr;have qe:Hid (yn w (w.alloc (J #[H next,.slice a l.length cap] 41))):=lT _ _;clear hc;go_enter Tryz.func134,Tryz.ntmps134;go_wp2_with fail;refine(iS next _ l id _ (zq (Z HR) (Z qe) ya)).mono ?_;rintro e w3 ⟨rfl,xN⟩;have xZ:=Q (lW (Z qe) xN);clear xN
 by_cases hp:plc l id<0
 ·have HK:Hid (idR l id=9):=if_pos hp;go_wp2_with fail;go_ret;exact⟨zt (Z HK).symm,Z xZ⟩
 ·have HK:Hid (idR l id=0):=if_neg hp;go_wp2_with fail;go_ret;exact⟨zt (Z HK).symm,Z xZ⟩
theorem reduceRefusal_any (next:Int)(vb:Value)(l:List Od)(id qty:Int)(w:World)(hr:RdR Od.vs 6 w vb l) :
  Calls Tryz.prog 135 #[.agg #[H next,vb],.agg #[H id,H qty]] w fun e w'=>e=ym (H (redR l id qty))/\yn w w':=by
 have HR:=Q hr;obtain⟨a,cap,rfl,xD,hc⟩:=hr;have bI:=Q hc;clear hc;have xI:=zh w (J #[H next,.slice a l.length cap] 41);have uc:((w.alloc (J #[H next,.slice a l.length cap] 41)).alloc (J #[H id,H qty] 232)).heap.size=w.heap.size+1+1:=by rw[zh,xI]
 have r1:=zo w [H next,.slice a l.length cap] 41;have r2:=zo (w.alloc (J #[H next,.slice a l.length cap] 41)) [H id,H qty] 232;rw[xI] at r2;have jp:Below (w.heap.size+1) (w.alloc (J #[H next,.slice a l.length cap] 41)) ((w.alloc (J #[H next,.slice a l.length cap] 41)).alloc (J #[H id,H qty] 232)):=(Below.refl _ _).alloc (by rw[xI];omega) _;have xq:Hid (yn w ((w.alloc (J #[H next,.slice a l.length cap] 41)).alloc (J #[H id,H qty] 232))):=(lT _ _).alloc (by rw[xI];omega) _;have HX:Hid (_/\_):=⟨zd r1 jp (by omega),r2⟩;have ug:Hid (w.heap.size<((w.alloc (J #[H next,.slice a l.length cap] 41)).alloc (J #[H id,H qty] 232)).heap.size/\w.heap.size+1<((w.alloc (J #[H next,.slice a l.length cap] 41)).alloc (J #[H id,H qty] 232)).heap.size):=⟨by omega,by omega⟩;clear xI uc r1 r2 jp;go_enter Tryz.func135,Tryz.ntmps135;refine lX fun ho xV=>?_;go_wp2_with fail;refine Z xV _ _ ?_;clear xV;generalize ((w.alloc (J #[H next,.slice a l.length cap] 41)).alloc (J #[H id,H qty] 232))=X2 at xq HX ug |-;have HX:Hid (X2.rangeAt w.heap.size 0 [H next,.slice a l.length cap]/\X2.rangeAt (w.heap.size+1) 0 [H id,H qty]):=Z HX;have k0:X2.cell? (yq w 0)=some (H next):=(Z HX).1 0 _ rfl;have k1:X2.cell? (yq w 1)=some (.slice a l.length cap):=(Z HX).1 1 _ rfl;have o0:X2.cell? (U (w.heap.size+1) 0)=some (H id):=(Z HX).2 0 _ rfl;have o1:X2.cell? (U (w.heap.size+1) 1)=some (H qty):=(Z HX).2 1 _ rfl;go_wp2_with fail;refine(isQty_any qty X2).mono ?_;rintro e w3 ⟨rfl,rfl⟩;cases hq:betB qty 1 1000000
 ·have HK:Hid (redR l id qty=7):=by show _ = _;rw[redR,if_neg (by rw[hq];simp)]
  clear hq;go_wp2_with fail;go_ret;exact⟨zt (Z HK).symm,Z xq⟩
 have HQ:=Q hq;clear hq;go_wp2_with fail;refine(idRefusal_any next _ l id w3 (zq (Z HR) (Z xq) ya)).mono ?_;rcases iZ l id with hp|⟨k,o,hp,X⟩
 ·have uf:idR l id=9:=by rw[idR,if_pos (by omega)]
  rw[uf];have HK:Hid (redR l id qty=9):=by show _ = _;rw[redR,if_pos (Z HQ),if_pos (by omega)]
  clear hp uf;rintro e w4 ⟨rfl,xz⟩;have xK:=Q (lW (Z xq) xz);clear xz;go_wp2_with fail;go_ret;exact⟨zt (Z HK).symm,Z xK⟩
 have uf:idR l id=0:=by rw[idR,if_neg (by omega)]
 rw[uf];have kb:=Q hp
 have vM:Hid (redR l id qty=if o.left<=qty then 10 else 0):=by
  show _ = _;rw[redR,if_pos (Z HQ),if_neg (by omega),hp,Int.toNat_natCast,X]
 have pg:=(yG.1 X).1;obtain⟨b,off,rfl,oP,xm⟩:=Z bI (by intro h;rw[h] at pg;simp at pg);have HCE:=Q (xm k o X);have hkl':(k:Int)<l.length:=by omega
 have oB:(0:Int)<=k:=by omega
 clear hp uf xm X;rintro e w4 ⟨rfl,xz⟩;have xK:=Q (lW (Z xq) xz);have xw:Hid (w4.rangeAt w.heap.size 0 [H next,.slice (some (U b off)) l.length cap]/\w4.rangeAt (w.heap.size+1) 0 [H id,H qty]/\w.heap.size<w4.heap.size/\w.heap.size+1<w4.heap.size):=⟨zd (Z HX).1 xz (Z ug).1,zd (Z HX).2 xz (Z ug).2,yJ (Z ug).1 xz.size,yJ (Z ug).2 xz.size⟩;clear xz k0 k1 o0 o1;go_wp2_with fail;have pS:Hid (yn w4 w4.drew):=(Below.refl _ _).drew;have HPO:Hid (∀V,yn w4 V->Calls Tryz.prog 103 #[.agg #[H next,.slice (some (U b off)) l.length cap],H id] V fun e w'=>e=ym (H k)/\yn w4 w'):=fun V hV=>(iS next _ l id V (zq (Z HR) (lW (Z xK) hV) ya)).mono fun e w' ⟨D,E⟩=>⟨by rw[D,Z kb],hV.trans (E.mono hV.size)⟩
 have oz:Hid (∀V,yn w4 V->V.cell? (U (w.heap.size+1) 1)=some (H qty)/\V.cell? (U (w.heap.size+1) 0)=some (H id)/\V.cell? (yq w 0)=some (H next)/\V.cell? (yq w 1)=some (.slice (some (U b off)) l.length cap)/\V.cell? (U b (off+k*6+3))=some (H o.left)):=fun V hV=>by
  have D:=zd (Z xw).1 hV (Z xw).2.2.1;have E:=zd (Z xw).2.1 hV (Z xw).2.2.2;obtain⟨-,-,-,y3,-⟩:=zM (zd (Z HCE) (lW (Z xK) hV) oP);exact⟨E 1 _ rfl,E 0 _ rfl,D 0 _ rfl,D 1 _ rfl,y3⟩
 go_region_held3 (fun w'=>w'.cell? (U (w.heap.size+1) 1)=some (H qty)/\w'.cell? (U (w.heap.size+1) 0)=some (H id)/\w'.cell? (yq w 0)=some (H next)/\w'.cell? (yq w 1)=some (.slice (some (U b off)) l.length cap)/\w'.cell? (U b (off+k*6+3))=some (H o.left)) (first|exact Z oz _ hq|exact Z oz _ (Z pS)|go_keep) ((go_at_call 103;refine(Z HPO _ (Z pS)).mono ?_;rintro e V ⟨rfl,hq⟩))
 have xM:=Q (lW (Z xK) hq);clear hq HPO oz pS
 by_cases uB:o.left<=qty
 ·have HK:Hid (redR l id qty=10):=(Z vM).trans (if_pos uB);go_wp2_with fail;go_ret;exact⟨zt (Z HK).symm,Z xM⟩
 ·have HK:Hid (redR l id qty=0):=(Z vM).trans (if_neg uB);go_wp2_with fail;go_ret;exact⟨zt (Z HK).symm,Z xM⟩
theorem refusal_1 (next:Int)(vb:Value)(l:List Od)(s ty li qt ii:Int)(pr:Nat)(tg:ByteArray)(w:World)(hr:RdR Od.vs 6 w vb l)(hs:SlOk vb)(M:GoodL l)(h0:0<=next)(D:next<=1000000)(ht:tg.size<=maxLen) :
  Calls Tryz.prog 99 #[.agg #[H next,vb],.agg (yx 1 s ty li qt ii pr tg).toArray] w fun e w'=>e=ym (H (if dM ⟨1,s,ty,li,qt,0,pr,tg⟩ ⟨1,s,ty,li,qt,ii,pr,tg⟩=true then newR next l ⟨1,s,ty,li,qt,ii,pr,tg⟩ else 2))/\yn w w':=by
 have HR:=Q hr;have HG:=Q M;have jS:=Q hs;have qu:Hid (0<=next/\next<=1000000):=⟨h0,D⟩;have HTG:=Q ht;obtain⟨a,cap,rfl,xD,hc⟩:=hr;clear hc M hs h0 D ht xD;generalize bE:dM ⟨1,s,ty,li,qt,0,pr,tg⟩ ⟨1,s,ty,li,qt,ii,pr,tg⟩=sm;have HSM:=Q bE;clear bE;have xI:=zh w (J #[H next,.slice a l.length cap] 41);have uc:((w.alloc (J #[H next,.slice a l.length cap] 41)).alloc (J (yx 1 s ty li qt ii pr tg).toArray 57)).heap.size=w.heap.size+1+1:=by rw[zh,xI]
 have r1:=zo w [H next,.slice a l.length cap] 41;have r2:=zo (w.alloc (J #[H next,.slice a l.length cap] 41)) (yx 1 s ty li qt ii pr tg) 57;rw[xI] at r2;have jp:Below (w.heap.size+1) (w.alloc (J #[H next,.slice a l.length cap] 41)) ((w.alloc (J #[H next,.slice a l.length cap] 41)).alloc (J (yx 1 s ty li qt ii pr tg).toArray 57)):=(Below.refl _ _).alloc (by rw[xI];omega) _;have xq:Hid (yn w ((w.alloc (J #[H next,.slice a l.length cap] 41)).alloc (J (yx 1 s ty li qt ii pr tg).toArray 57))):=(lT _ _).alloc (by rw[xI];omega) _;have HX:Hid (_/\_):=⟨zd r1 jp (by omega),r2⟩;have ug:Hid (w.heap.size<((w.alloc (J #[H next,.slice a l.length cap] 41)).alloc (J (yx 1 s ty li qt ii pr tg).toArray 57)).heap.size/\w.heap.size+1<((w.alloc (J #[H next,.slice a l.length cap] 41)).alloc (J (yx 1 s ty li qt ii pr tg).toArray 57)).heap.size):=⟨by omega,by omega⟩;clear xI uc r1 r2 jp;go_enter Tryz.func99,Tryz.ntmps99;refine lX fun ho xV=>?_;go_wp2_with fail;refine Z xV _ _ ?_;clear xV;generalize ((w.alloc (J #[H next,.slice a l.length cap] 41)).alloc (J (yx 1 s ty li qt ii pr tg).toArray 57))=X2 at xq HX ug |-;have HX:Hid (X2.rangeAt w.heap.size 0 [H next,.slice a l.length cap]/\X2.rangeAt (w.heap.size+1) 0 (yx 1 s ty li qt ii pr tg)):=Z HX;obtain⟨o0,o1,o2,o3,o4,o5,o6,o7⟩:=yD (Z HX).2;go_wp2_with fail;refine(iK ⟨1,s,ty,li,qt,ii,pr,tg⟩ X2).mono ?_;have du:cmdI ⟨1,s,ty,li,qt,ii,pr,tg⟩ = .iface 96 (.agg #[H s,H ty,H li,H qt,yj pr,yk tg]):=by simp[cmdI,noV]
 rw [du];clear du;rintro e w4 ⟨rfl,xz⟩;have xK:=Q (lW (Z xq) xz);have xw:Hid (w4.rangeAt w.heap.size 0 [H next,.slice a l.length cap]/\w4.rangeAt (w.heap.size + 1) 0 (yx 1 s ty li qt ii pr tg)/\w.heap.size < w4.heap.size/\w.heap.size + 1 < w4.heap.size):=⟨zd (Z HX).1 xz (Z ug).1,zd (Z HX).2 xz (Z ug).2,yJ (Z ug).1 xz.size,yJ (Z ug).2 xz.size⟩;clear xz o0 o1 o2 o3 o4 o5 o6 o7;go_wp2_with fail;have hm:∀ W:World,Sem.run Tryz.prog (method 416 96 (.agg #[H s,H ty,H li,H qt,yj pr,yk tg]) "loop.example/g00092/impl.told") W = .ok (240,.agg #[H s,H ty,H li,H qt,yj pr,yk tg]) W:=fun W=>by kernel_rfl
 have pS:Hid (yn w4 w4.drew):=(Below.refl _ _).drew;have oG:=Q (fun W=>lk ⟨1,s,ty,li,qt,0,pr,tg⟩ ⟨1,s,ty,li,qt,ii,pr,tg⟩ W);rw[Z HSM] at oG;unfold cmV at oG;simp only at oG;have jj:=Q (fun W=>toldNew_any ⟨1,s,ty,li,qt,ii,pr,tg⟩ W);unfold noV at jj;simp only at jj;have oz:Hid (∀V,yn w4 V->V.cell? (U (w.heap.size+1) 0)=some (H 1)/\V.cell? (U (w.heap.size+1) 1)=some (H s)/\V.cell? (U (w.heap.size+1) 2)=some (H ty)/\V.cell? (U (w.heap.size+1) 3)=some (H li)/\V.cell? (U (w.heap.size+1) 4)=some (H qt)/\V.cell? (U (w.heap.size+1) 5)=some (H ii)/\V.cell? (U (w.heap.size+1) 6)=some (yj pr)/\V.cell? (U (w.heap.size+1) 7)=some (yk tg)):=fun V hV=>⟨zd (Z xw).2.1 hV (Z xw).2.2.2 0 _ rfl,zd (Z xw).2.1 hV (Z xw).2.2.2 1 _ rfl,zd (Z xw).2.1 hV (Z xw).2.2.2 2 _ rfl,zd (Z xw).2.1 hV (Z xw).2.2.2 3 _ rfl,zd (Z xw).2.1 hV (Z xw).2.2.2 4 _ rfl,zd (Z xw).2.1 hV (Z xw).2.2.2 5 _ rfl,zd (Z xw).2.1 hV (Z xw).2.2.2 6 _ rfl,zd (Z xw).2.1 hV (Z xw).2.2.2 7 _ rfl⟩
 go_region_held3 (fun w'=>w'.cell? (U (w.heap.size+1) 0)=some (H 1)/\w'.cell? (U (w.heap.size+1) 1)=some (H s)/\w'.cell? (U (w.heap.size+1) 2)=some (H ty)/\w'.cell? (U (w.heap.size+1) 3)=some (H li)/\w'.cell? (U (w.heap.size+1) 4)=some (H qt)/\w'.cell? (U (w.heap.size+1) 5)=some (H ii)/\w'.cell? (U (w.heap.size+1) 6)=some (yj pr)/\w'.cell? (U (w.heap.size+1) 7)=some (yk tg)) (first|exact Z oz _ xk|exact Z oz _ (Z pS)|go_keep) (first|(go_at_call 240;refine(Z jj _).mono ?_;rintro e V5 ⟨rfl,xX⟩;have xk:=(Z pS).trans xX)|(go_at_call 132;refine(Z oG _).mono ?_;rintro e V ⟨rfl,vN⟩;have xk:=xk.trans (vN.mono xk.size)))
 have xM:=Q (lW (Z xK) xk);have z0:=zd (Z xw).1 xk (Z xw).2.2.1 0 _ rfl;have z1:=zd (Z xw).1 xk (Z xw).2.2.1 1 _ rfl;rw[Nat.zero_add] at z0 z1;have ta1:∀W:World,Sem.run Tryz.prog (Instr.typeAssert (.iface 96 (.agg #[H s,H ty,H li,H qt,yj pr,yk tg])) 225 96 true) W = .ok (.tuple #[.agg #[H s,H ty,H li,H qt,yj pr,yk tg],.bool true]) W:=fun W=>by kernel_rfl
 clear xk jj oG hm;cases sm
 ·go_wp2_with fail;go_ret;exact⟨rfl,Z xM⟩
 ·have xH:w.heap.size<V.heap.size:=yK V (yq w 0) z0;have y0:World.cell? (V.alloc (J #[H s,H ty,H li,H qt,yj pr,yk tg] 96)) (yq w 0)=some (H next):=(yV _ _ _ xH).trans z0;have y1:World.cell? (V.alloc (J #[H s,H ty,H li,H qt,yj pr,yk tg] 96)) (yq w 1)=some (.slice a l.length cap):=(yV _ _ _ xH).trans z1;have HBA:Hid (yn w (V.alloc (J #[H s,H ty,H li,H qt,yj pr,yk tg] 96))):=(Z xM).alloc (Z xM).size _;clear z0 z1 xH;have hsf:=sfl;go_wp2_with fail;refine(newRefusal_any next _ l ⟨1,s,ty,li,qt,ii,pr,tg⟩ _ (zq (Z HR) (Z HBA) ya) (Z jS) (Z HG) (Z qu).1 (Z qu).2 (Z HTG)).mono ?_;rintro e w7 ⟨rfl,qQ⟩;have kA:=Q (lW (Z HBA) qQ);clear qQ;go_wp2_with fail;go_ret;exact⟨rfl,Z kA⟩
theorem refusal_2 (next:Int)(vb:Value)(l:List Od)(s ty li qt ii:Int)(pr:Nat)(tg:ByteArray)(w:World)(hr:RdR Od.vs 6 w vb l)(hs:SlOk vb)(M:GoodL l)(h0:0<=next)(D:next<=1000000)(ht:tg.size<=maxLen) :
  Calls Tryz.prog 99 #[.agg #[H next,vb],.agg (yx 2 s ty li qt ii pr tg).toArray] w fun e w'=>e=ym (H (if dM ⟨2,0,0,0,0,ii,0,⟨#[]⟩⟩ ⟨2,s,ty,li,qt,ii,pr,tg⟩=true then idR l ii else 2))/\yn w w':=by
 have HR:=Q hr;have HG:=Q M;have jS:=Q hs;have qu:Hid (0<=next/\next<=1000000):=⟨h0,D⟩;have HTG:=Q ht;obtain⟨a,cap,rfl,xD,hc⟩:=hr;clear hc M hs h0 D ht xD;generalize bE:dM ⟨2,0,0,0,0,ii,0,⟨#[]⟩⟩ ⟨2,s,ty,li,qt,ii,pr,tg⟩=sm;have HSM:=Q bE;clear bE;have xI:=zh w (J #[H next,.slice a l.length cap] 41);have uc:((w.alloc (J #[H next,.slice a l.length cap] 41)).alloc (J (yx 2 s ty li qt ii pr tg).toArray 57)).heap.size=w.heap.size+1+1:=by rw[zh,xI]
 have r1:=zo w [H next,.slice a l.length cap] 41;have r2:=zo (w.alloc (J #[H next,.slice a l.length cap] 41)) (yx 2 s ty li qt ii pr tg) 57;rw[xI] at r2;have jp:Below (w.heap.size+1) (w.alloc (J #[H next,.slice a l.length cap] 41)) ((w.alloc (J #[H next,.slice a l.length cap] 41)).alloc (J (yx 2 s ty li qt ii pr tg).toArray 57)):=(Below.refl _ _).alloc (by rw[xI];omega) _;have xq:Hid (yn w ((w.alloc (J #[H next,.slice a l.length cap] 41)).alloc (J (yx 2 s ty li qt ii pr tg).toArray 57))):=(lT _ _).alloc (by rw[xI];omega) _;have HX:Hid (_/\_):=⟨zd r1 jp (by omega),r2⟩;have ug:Hid (w.heap.size<((w.alloc (J #[H next,.slice a l.length cap] 41)).alloc (J (yx 2 s ty li qt ii pr tg).toArray 57)).heap.size/\w.heap.size+1<((w.alloc (J #[H next,.slice a l.length cap] 41)).alloc (J (yx 2 s ty li qt ii pr tg).toArray 57)).heap.size):=⟨by omega,by omega⟩;clear xI uc r1 r2 jp;go_enter Tryz.func99,Tryz.ntmps99;refine lX fun ho xV=>?_;go_wp2_with fail;refine Z xV _ _ ?_;clear xV;generalize ((w.alloc (J #[H next,.slice a l.length cap] 41)).alloc (J (yx 2 s ty li qt ii pr tg).toArray 57))=X2 at xq HX ug |-;have HX:Hid (X2.rangeAt w.heap.size 0 [H next,.slice a l.length cap]/\X2.rangeAt (w.heap.size+1) 0 (yx 2 s ty li qt ii pr tg)):=Z HX;obtain⟨o0,o1,o2,o3,o4,o5,o6,o7⟩:=yD (Z HX).2;go_wp2_with fail;refine(iK ⟨2,s,ty,li,qt,ii,pr,tg⟩ X2).mono ?_;have du:cmdI ⟨2,s,ty,li,qt,ii,pr,tg⟩ = .iface 230 (.agg #[H ii]):=by simp[cmdI]
 rw [du];clear du;rintro e w4 ⟨rfl,xz⟩;have xK:=Q (lW (Z xq) xz);have xw:Hid (w4.rangeAt w.heap.size 0 [H next,.slice a l.length cap]/\w4.rangeAt (w.heap.size + 1) 0 (yx 2 s ty li qt ii pr tg)/\w.heap.size < w4.heap.size/\w.heap.size + 1 < w4.heap.size):=⟨zd (Z HX).1 xz (Z ug).1,zd (Z HX).2 xz (Z ug).2,yJ (Z ug).1 xz.size,yJ (Z ug).2 xz.size⟩;clear xz o0 o1 o2 o3 o4 o5 o6 o7;go_wp2_with fail;have hm:∀ W:World,Sem.run Tryz.prog (method 416 230 (.agg #[H ii]) "loop.example/g00092/impl.told") W = .ok (258,.agg #[H ii]) W:=fun W=>by kernel_rfl
 have pS:Hid (yn w4 w4.drew):=(Below.refl _ _).drew;have oG:=Q (fun W=>lk ⟨2,0,0,0,0,ii,0,⟨#[]⟩⟩ ⟨2,s,ty,li,qt,ii,pr,tg⟩ W);rw[Z HSM] at oG;unfold cmV at oG;simp only at oG;have jj:=Q (fun W=>toldCancel_any ii W);have oz:Hid (∀V,yn w4 V->V.cell? (U (w.heap.size+1) 0)=some (H 2)/\V.cell? (U (w.heap.size+1) 1)=some (H s)/\V.cell? (U (w.heap.size+1) 2)=some (H ty)/\V.cell? (U (w.heap.size+1) 3)=some (H li)/\V.cell? (U (w.heap.size+1) 4)=some (H qt)/\V.cell? (U (w.heap.size+1) 5)=some (H ii)/\V.cell? (U (w.heap.size+1) 6)=some (yj pr)/\V.cell? (U (w.heap.size+1) 7)=some (yk tg)):=fun V hV=>⟨zd (Z xw).2.1 hV (Z xw).2.2.2 0 _ rfl,zd (Z xw).2.1 hV (Z xw).2.2.2 1 _ rfl,zd (Z xw).2.1 hV (Z xw).2.2.2 2 _ rfl,zd (Z xw).2.1 hV (Z xw).2.2.2 3 _ rfl,zd (Z xw).2.1 hV (Z xw).2.2.2 4 _ rfl,zd (Z xw).2.1 hV (Z xw).2.2.2 5 _ rfl,zd (Z xw).2.1 hV (Z xw).2.2.2 6 _ rfl,zd (Z xw).2.1 hV (Z xw).2.2.2 7 _ rfl⟩
 go_region_held3 (fun w'=>w'.cell? (U (w.heap.size+1) 0)=some (H 2)/\w'.cell? (U (w.heap.size+1) 1)=some (H s)/\w'.cell? (U (w.heap.size+1) 2)=some (H ty)/\w'.cell? (U (w.heap.size+1) 3)=some (H li)/\w'.cell? (U (w.heap.size+1) 4)=some (H qt)/\w'.cell? (U (w.heap.size+1) 5)=some (H ii)/\w'.cell? (U (w.heap.size+1) 6)=some (yj pr)/\w'.cell? (U (w.heap.size+1) 7)=some (yk tg)) (first|exact Z oz _ xk|exact Z oz _ (Z pS)|go_keep) (first|(go_at_call 258;refine(Z jj _).mono ?_;rintro e V5 ⟨rfl,xX⟩;have xk:=(Z pS).trans xX)|(go_at_call 132;refine(Z oG _).mono ?_;rintro e V ⟨rfl,vN⟩;have xk:=xk.trans (vN.mono xk.size)))
 have xM:=Q (lW (Z xK) xk);have z0:=zd (Z xw).1 xk (Z xw).2.2.1 0 _ rfl;have z1:=zd (Z xw).1 xk (Z xw).2.2.1 1 _ rfl;rw[Nat.zero_add] at z0 z1;have ta1:∀W:World,Sem.run Tryz.prog (Instr.typeAssert (.iface 230 (.agg #[H ii])) 225 96 true) W = .ok (.tuple #[.agg #[H 0,H 0,H 0,H 0,yj 0,yk ⟨#[]⟩],.bool false]) W:=fun W=>by kernel_rfl
 have ta2:∀W:World,Sem.run Tryz.prog (Instr.typeAssert (.iface 230 (.agg #[H ii])) 225 230 true) W = .ok (.tuple #[.agg #[H ii],.bool true]) W:=fun W=>by kernel_rfl
 clear xk jj oG hm;cases sm
 ·go_wp2_with fail;go_ret;exact⟨rfl,Z xM⟩
 ·have xH:w.heap.size<V.heap.size:=yK V (yq w 0) z0;have y0:World.cell? (V.alloc (J #[H ii] 230)) (yq w 0)=some (H next):=(yV _ _ _ xH).trans z0;have y1:World.cell? (V.alloc (J #[H ii] 230)) (yq w 1)=some (.slice a l.length cap):=(yV _ _ _ xH).trans z1;have HBA:Hid (yn w (V.alloc (J #[H ii] 230))):=(Z xM).alloc (Z xM).size _;clear z0 z1 xH;go_wp2_with fail;refine(idRefusal_any next _ l ii _ (zq (Z HR) (Z HBA) ya)).mono ?_;rintro e w7 ⟨rfl,qQ⟩;have kA:=Q (lW (Z HBA) qQ);clear qQ;go_wp2_with fail;go_ret;exact⟨rfl,Z kA⟩
theorem refusal_3 (next:Int)(vb:Value)(l:List Od)(s ty li qt ii:Int)(pr:Nat)(tg:ByteArray)(w:World)(hr:RdR Od.vs 6 w vb l)(hs:SlOk vb)(M:GoodL l)(h0:0<=next)(D:next<=1000000)(ht:tg.size<=maxLen) :
  Calls Tryz.prog 99 #[.agg #[H next,vb],.agg (yx 3 s ty li qt ii pr tg).toArray] w fun e w'=>e=ym (H (if dM ⟨3,0,0,0,qt,ii,0,⟨#[]⟩⟩ ⟨3,s,ty,li,qt,ii,pr,tg⟩=true then redR l ii qt else 2))/\yn w w':=by
 have HR:=Q hr;have HG:=Q M;have jS:=Q hs;have qu:Hid (0<=next/\next<=1000000):=⟨h0,D⟩;have HTG:=Q ht;obtain⟨a,cap,rfl,xD,hc⟩:=hr;clear hc M hs h0 D ht xD;generalize bE:dM ⟨3,0,0,0,qt,ii,0,⟨#[]⟩⟩ ⟨3,s,ty,li,qt,ii,pr,tg⟩=sm;have HSM:=Q bE;clear bE;have xI:=zh w (J #[H next,.slice a l.length cap] 41);have uc:((w.alloc (J #[H next,.slice a l.length cap] 41)).alloc (J (yx 3 s ty li qt ii pr tg).toArray 57)).heap.size=w.heap.size+1+1:=by rw[zh,xI]
 have r1:=zo w [H next,.slice a l.length cap] 41;have r2:=zo (w.alloc (J #[H next,.slice a l.length cap] 41)) (yx 3 s ty li qt ii pr tg) 57;rw[xI] at r2;have jp:Below (w.heap.size+1) (w.alloc (J #[H next,.slice a l.length cap] 41)) ((w.alloc (J #[H next,.slice a l.length cap] 41)).alloc (J (yx 3 s ty li qt ii pr tg).toArray 57)):=(Below.refl _ _).alloc (by rw[xI];omega) _;have xq:Hid (yn w ((w.alloc (J #[H next,.slice a l.length cap] 41)).alloc (J (yx 3 s ty li qt ii pr tg).toArray 57))):=(lT _ _).alloc (by rw[xI];omega) _;have HX:Hid (_/\_):=⟨zd r1 jp (by omega),r2⟩;have ug:Hid (w.heap.size<((w.alloc (J #[H next,.slice a l.length cap] 41)).alloc (J (yx 3 s ty li qt ii pr tg).toArray 57)).heap.size/\w.heap.size+1<((w.alloc (J #[H next,.slice a l.length cap] 41)).alloc (J (yx 3 s ty li qt ii pr tg).toArray 57)).heap.size):=⟨by omega,by omega⟩;clear xI uc r1 r2 jp;go_enter Tryz.func99,Tryz.ntmps99;refine lX fun ho xV=>?_;go_wp2_with fail;refine Z xV _ _ ?_;clear xV;generalize ((w.alloc (J #[H next,.slice a l.length cap] 41)).alloc (J (yx 3 s ty li qt ii pr tg).toArray 57))=X2 at xq HX ug |-;have HX:Hid (X2.rangeAt w.heap.size 0 [H next,.slice a l.length cap]/\X2.rangeAt (w.heap.size+1) 0 (yx 3 s ty li qt ii pr tg)):=Z HX;obtain⟨o0,o1,o2,o3,o4,o5,o6,o7⟩:=yD (Z HX).2;go_wp2_with fail;refine(iK ⟨3,s,ty,li,qt,ii,pr,tg⟩ X2).mono ?_;have du:cmdI ⟨3,s,ty,li,qt,ii,pr,tg⟩ = .iface 232 (.agg #[H ii,H qt]):=by simp[cmdI]
 rw [du];clear du;rintro e w4 ⟨rfl,xz⟩;have xK:=Q (lW (Z xq) xz);have xw:Hid (w4.rangeAt w.heap.size 0 [H next,.slice a l.length cap]/\w4.rangeAt (w.heap.size + 1) 0 (yx 3 s ty li qt ii pr tg)/\w.heap.size < w4.heap.size/\w.heap.size + 1 < w4.heap.size):=⟨zd (Z HX).1 xz (Z ug).1,zd (Z HX).2 xz (Z ug).2,yJ (Z ug).1 xz.size,yJ (Z ug).2 xz.size⟩;clear xz o0 o1 o2 o3 o4 o5 o6 o7;go_wp2_with fail;have hm:∀ W:World,Sem.run Tryz.prog (method 416 232 (.agg #[H ii,H qt]) "loop.example/g00092/impl.told") W = .ok (259,.agg #[H ii,H qt]) W:=fun W=>by kernel_rfl
 have pS:Hid (yn w4 w4.drew):=(Below.refl _ _).drew;have oG:=Q (fun W=>lk ⟨3,0,0,0,qt,ii,0,⟨#[]⟩⟩ ⟨3,s,ty,li,qt,ii,pr,tg⟩ W);rw[Z HSM] at oG;unfold cmV at oG;simp only at oG;have jj:=Q (fun W=>toldReduce_any ii qt W);have oz:Hid (∀V,yn w4 V->V.cell? (U (w.heap.size+1) 0)=some (H 3)/\V.cell? (U (w.heap.size+1) 1)=some (H s)/\V.cell? (U (w.heap.size+1) 2)=some (H ty)/\V.cell? (U (w.heap.size+1) 3)=some (H li)/\V.cell? (U (w.heap.size+1) 4)=some (H qt)/\V.cell? (U (w.heap.size+1) 5)=some (H ii)/\V.cell? (U (w.heap.size+1) 6)=some (yj pr)/\V.cell? (U (w.heap.size+1) 7)=some (yk tg)):=fun V hV=>⟨zd (Z xw).2.1 hV (Z xw).2.2.2 0 _ rfl,zd (Z xw).2.1 hV (Z xw).2.2.2 1 _ rfl,zd (Z xw).2.1 hV (Z xw).2.2.2 2 _ rfl,zd (Z xw).2.1 hV (Z xw).2.2.2 3 _ rfl,zd (Z xw).2.1 hV (Z xw).2.2.2 4 _ rfl,zd (Z xw).2.1 hV (Z xw).2.2.2 5 _ rfl,zd (Z xw).2.1 hV (Z xw).2.2.2 6 _ rfl,zd (Z xw).2.1 hV (Z xw).2.2.2 7 _ rfl⟩
 go_region_held3 (fun w'=>w'.cell? (U (w.heap.size+1) 0)=some (H 3)/\w'.cell? (U (w.heap.size+1) 1)=some (H s)/\w'.cell? (U (w.heap.size+1) 2)=some (H ty)/\w'.cell? (U (w.heap.size+1) 3)=some (H li)/\w'.cell? (U (w.heap.size+1) 4)=some (H qt)/\w'.cell? (U (w.heap.size+1) 5)=some (H ii)/\w'.cell? (U (w.heap.size+1) 6)=some (yj pr)/\w'.cell? (U (w.heap.size+1) 7)=some (yk tg)) (first|exact Z oz _ xk|exact Z oz _ (Z pS)|go_keep) (first|(go_at_call 259;refine(Z jj _).mono ?_;rintro e V5 ⟨rfl,xX⟩;have xk:=(Z pS).trans xX)|(go_at_call 132;refine(Z oG _).mono ?_;rintro e V ⟨rfl,vN⟩;have xk:=xk.trans (vN.mono xk.size)))
 have xM:=Q (lW (Z xK) xk);have z0:=zd (Z xw).1 xk (Z xw).2.2.1 0 _ rfl;have z1:=zd (Z xw).1 xk (Z xw).2.2.1 1 _ rfl;rw[Nat.zero_add] at z0 z1;have ta1:∀W:World,Sem.run Tryz.prog (Instr.typeAssert (.iface 232 (.agg #[H ii,H qt])) 225 96 true) W = .ok (.tuple #[.agg #[H 0,H 0,H 0,H 0,yj 0,yk ⟨#[]⟩],.bool false]) W:=fun W=>by kernel_rfl
 have ta2:∀W:World,Sem.run Tryz.prog (Instr.typeAssert (.iface 232 (.agg #[H ii,H qt])) 225 230 true) W = .ok (.tuple #[.agg #[H 0],.bool false]) W:=fun W=>by kernel_rfl
 have ta3:∀W:World,Sem.run Tryz.prog (Instr.typeAssert (.iface 232 (.agg #[H ii,H qt])) 225 232 true) W = .ok (.tuple #[.agg #[H ii,H qt],.bool true]) W:=fun W=>by kernel_rfl
 clear xk jj oG hm;cases sm
 ·go_wp2_with fail;go_ret;exact⟨rfl,Z xM⟩
 ·have xH:w.heap.size<V.heap.size:=yK V (yq w 0) z0;have y0:World.cell? (V.alloc (J #[H ii,H qt] 232)) (yq w 0)=some (H next):=(yV _ _ _ xH).trans z0;have y1:World.cell? (V.alloc (J #[H ii,H qt] 232)) (yq w 1)=some (.slice a l.length cap):=(yV _ _ _ xH).trans z1;have HBA:Hid (yn w (V.alloc (J #[H ii,H qt] 232))):=(Z xM).alloc (Z xM).size _;clear z0 z1 xH;go_wp2_with fail;refine(reduceRefusal_any next _ l ii qt _ (zq (Z HR) (Z HBA) ya)).mono ?_;rintro e w7 ⟨rfl,qQ⟩;have kA:=Q (lW (Z HBA) qQ);clear qQ;go_wp2_with fail;go_ret;exact⟨rfl,Z kA⟩
theorem refusal_4 (next:Int)(vb:Value)(l:List Od)(s ty li qt ii:Int)(pr:Nat)(tg:ByteArray)(w:World)(hr:RdR Od.vs 6 w vb l)(hs:SlOk vb)(M:GoodL l)(h0:0<=next)(D:next<=1000000)(ht:tg.size<=maxLen) :
  Calls Tryz.prog 99 #[.agg #[H next,vb],.agg (yx 4 s ty li qt ii pr tg).toArray] w fun e w'=>e=ym (H (if dM ⟨4,0,0,0,0,0,0,⟨#[]⟩⟩ ⟨4,s,ty,li,qt,ii,pr,tg⟩=true then 0 else 2))/\yn w w':=by
 have HR:=Q hr;have HG:=Q M;have jS:=Q hs;have qu:Hid (0<=next/\next<=1000000):=⟨h0,D⟩;have HTG:=Q ht;obtain⟨a,cap,rfl,xD,hc⟩:=hr;clear hc M hs h0 D ht xD;generalize bE:dM ⟨4,0,0,0,0,0,0,⟨#[]⟩⟩ ⟨4,s,ty,li,qt,ii,pr,tg⟩=sm;have HSM:=Q bE;clear bE;have xI:=zh w (J #[H next,.slice a l.length cap] 41);have uc:((w.alloc (J #[H next,.slice a l.length cap] 41)).alloc (J (yx 4 s ty li qt ii pr tg).toArray 57)).heap.size=w.heap.size+1+1:=by rw[zh,xI]
 have r1:=zo w [H next,.slice a l.length cap] 41;have r2:=zo (w.alloc (J #[H next,.slice a l.length cap] 41)) (yx 4 s ty li qt ii pr tg) 57;rw[xI] at r2;have jp:Below (w.heap.size+1) (w.alloc (J #[H next,.slice a l.length cap] 41)) ((w.alloc (J #[H next,.slice a l.length cap] 41)).alloc (J (yx 4 s ty li qt ii pr tg).toArray 57)):=(Below.refl _ _).alloc (by rw[xI];omega) _;have xq:Hid (yn w ((w.alloc (J #[H next,.slice a l.length cap] 41)).alloc (J (yx 4 s ty li qt ii pr tg).toArray 57))):=(lT _ _).alloc (by rw[xI];omega) _;have HX:Hid (_/\_):=⟨zd r1 jp (by omega),r2⟩;have ug:Hid (w.heap.size<((w.alloc (J #[H next,.slice a l.length cap] 41)).alloc (J (yx 4 s ty li qt ii pr tg).toArray 57)).heap.size/\w.heap.size+1<((w.alloc (J #[H next,.slice a l.length cap] 41)).alloc (J (yx 4 s ty li qt ii pr tg).toArray 57)).heap.size):=⟨by omega,by omega⟩;clear xI uc r1 r2 jp;go_enter Tryz.func99,Tryz.ntmps99;refine lX fun ho xV=>?_;go_wp2_with fail;refine Z xV _ _ ?_;clear xV;generalize ((w.alloc (J #[H next,.slice a l.length cap] 41)).alloc (J (yx 4 s ty li qt ii pr tg).toArray 57))=X2 at xq HX ug |-;have HX:Hid (X2.rangeAt w.heap.size 0 [H next,.slice a l.length cap]/\X2.rangeAt (w.heap.size+1) 0 (yx 4 s ty li qt ii pr tg)):=Z HX;obtain⟨o0,o1,o2,o3,o4,o5,o6,o7⟩:=yD (Z HX).2;go_wp2_with fail;refine(iK ⟨4,s,ty,li,qt,ii,pr,tg⟩ X2).mono ?_;have du:cmdI ⟨4,s,ty,li,qt,ii,pr,tg⟩ = .iface 259 (.agg #[]):=by simp[cmdI]
 rw [du];clear du;rintro e w4 ⟨rfl,xz⟩;have xK:=Q (lW (Z xq) xz);have xw:Hid (w4.rangeAt w.heap.size 0 [H next,.slice a l.length cap]/\w4.rangeAt (w.heap.size + 1) 0 (yx 4 s ty li qt ii pr tg)/\w.heap.size < w4.heap.size/\w.heap.size + 1 < w4.heap.size):=⟨zd (Z HX).1 xz (Z ug).1,zd (Z HX).2 xz (Z ug).2,yJ (Z ug).1 xz.size,yJ (Z ug).2 xz.size⟩;clear xz o0 o1 o2 o3 o4 o5 o6 o7;go_wp2_with fail;have hm:∀ W:World,Sem.run Tryz.prog (method 416 259 (.agg #[]) "loop.example/g00092/impl.told") W = .ok (260,.agg #[]) W:=fun W=>by kernel_rfl
 have pS:Hid (yn w4 w4.drew):=(Below.refl _ _).drew;have oG:=Q (fun W=>lk ⟨4,0,0,0,0,0,0,⟨#[]⟩⟩ ⟨4,s,ty,li,qt,ii,pr,tg⟩ W);rw[Z HSM] at oG;unfold cmV at oG;simp only at oG;have jj:=Q (fun W=>toldDay_any W);have oz:Hid (∀V,yn w4 V->V.cell? (U (w.heap.size+1) 0)=some (H 4)/\V.cell? (U (w.heap.size+1) 1)=some (H s)/\V.cell? (U (w.heap.size+1) 2)=some (H ty)/\V.cell? (U (w.heap.size+1) 3)=some (H li)/\V.cell? (U (w.heap.size+1) 4)=some (H qt)/\V.cell? (U (w.heap.size+1) 5)=some (H ii)/\V.cell? (U (w.heap.size+1) 6)=some (yj pr)/\V.cell? (U (w.heap.size+1) 7)=some (yk tg)):=fun V hV=>⟨zd (Z xw).2.1 hV (Z xw).2.2.2 0 _ rfl,zd (Z xw).2.1 hV (Z xw).2.2.2 1 _ rfl,zd (Z xw).2.1 hV (Z xw).2.2.2 2 _ rfl,zd (Z xw).2.1 hV (Z xw).2.2.2 3 _ rfl,zd (Z xw).2.1 hV (Z xw).2.2.2 4 _ rfl,zd (Z xw).2.1 hV (Z xw).2.2.2 5 _ rfl,zd (Z xw).2.1 hV (Z xw).2.2.2 6 _ rfl,zd (Z xw).2.1 hV (Z xw).2.2.2 7 _ rfl⟩
 go_region_held3 (fun w'=>w'.cell? (U (w.heap.size+1) 0)=some (H 4)/\w'.cell? (U (w.heap.size+1) 1)=some (H s)/\w'.cell? (U (w.heap.size+1) 2)=some (H ty)/\w'.cell? (U (w.heap.size+1) 3)=some (H li)/\w'.cell? (U (w.heap.size+1) 4)=some (H qt)/\w'.cell? (U (w.heap.size+1) 5)=some (H ii)/\w'.cell? (U (w.heap.size+1) 6)=some (yj pr)/\w'.cell? (U (w.heap.size+1) 7)=some (yk tg)) (first|exact Z oz _ xk|exact Z oz _ (Z pS)|go_keep) (first|(go_at_call 260;refine(Z jj _).mono ?_;rintro e V5 ⟨rfl,xX⟩;have xk:=(Z pS).trans xX)|(go_at_call 132;refine(Z oG _).mono ?_;rintro e V ⟨rfl,vN⟩;have xk:=xk.trans (vN.mono xk.size)))
 have xM:=Q (lW (Z xK) xk);have z0:=zd (Z xw).1 xk (Z xw).2.2.1 0 _ rfl;have z1:=zd (Z xw).1 xk (Z xw).2.2.1 1 _ rfl;rw[Nat.zero_add] at z0 z1;have ta1:∀W:World,Sem.run Tryz.prog (Instr.typeAssert (.iface 259 (.agg #[])) 225 96 true) W = .ok (.tuple #[.agg #[H 0,H 0,H 0,H 0,yj 0,yk ⟨#[]⟩],.bool false]) W:=fun W=>by kernel_rfl
 have ta2:∀W:World,Sem.run Tryz.prog (Instr.typeAssert (.iface 259 (.agg #[])) 225 230 true) W = .ok (.tuple #[.agg #[H 0],.bool false]) W:=fun W=>by kernel_rfl
 have ta3:∀W:World,Sem.run Tryz.prog (Instr.typeAssert (.iface 259 (.agg #[])) 225 232 true) W = .ok (.tuple #[.agg #[H 0,H 0],.bool false]) W:=fun W=>by kernel_rfl
 clear xk jj oG hm;cases sm
 ·go_wp2_with fail;go_ret;exact⟨rfl,Z xM⟩
 ·go_wp2_with fail;go_ret;exact⟨rfl,Z xM⟩
def refR (next:Int)(l:List Od)(c:Cm):Int:=
 if c.k=1 then(if dM ⟨1,c.s,c.t,c.l,c.q,0,c.p,c.g⟩ c=true then newR next l c else 2)
 else if c.k=2 then(if dM ⟨2,0,0,0,0,c.i,0,⟨#[]⟩⟩ c=true then idR l c.i else 2)
 else if c.k=3 then(if dM ⟨3,0,0,0,c.q,c.i,0,⟨#[]⟩⟩ c=true then redR l c.i c.q else 2)
 else if c.k=4 then(if dM ⟨4,0,0,0,0,0,0,⟨#[]⟩⟩ c=true then 0 else 2)
 else 1
theorem refusal_any (next:Int)(vb:Value)(l:List Od)(c:Cm)(w:World)(hr:RdR Od.vs 6 w vb l)(hs:SlOk vb)(M:GoodL l)(h0:0<=next)(D:next<=1000000)(ht:c.g.size<=maxLen) :
  Calls Tryz.prog 99 #[.agg #[H next,vb],cmV c] w fun e w'=>e=ym (H (refR next l c))/\yn w w':=by
 obtain⟨kk,s,ty,li,qt,ii,pr,tg⟩:=c;unfold cmV;simp only at ht |-
 by_cases e1:kk=1
 ·subst e1;exact refusal_1 next vb l s ty li qt ii pr tg w hr hs M h0 D ht
 by_cases e2:kk=2
 ·subst e2;exact refusal_2 next vb l s ty li qt ii pr tg w hr hs M h0 D ht
 by_cases e3:kk=3
 ·subst e3;exact refusal_3 next vb l s ty li qt ii pr tg w hr hs M h0 D ht
 by_cases e4:kk=4
 ·subst e4;exact refusal_4 next vb l s ty li qt ii pr tg w hr hs M h0 D ht
 have vM:Hid (refR next l ⟨kk,s,ty,li,qt,ii,pr,tg⟩=1):=by show _ = _;simp[refR,e1,e2,e3,e4]
 have du:cmdI ⟨kk,s,ty,li,qt,ii,pr,tg⟩ = .nilIface:=by simp[cmdI,e1,e2,e3,e4]
 obtain⟨a,cap,rfl,xD,hc⟩:=hr;clear hc M hs h0 D ht xD e1 e2 e3 e4;have xI:=zh w (J #[H next,.slice a l.length cap] 41);have uc:((w.alloc (J #[H next,.slice a l.length cap] 41)).alloc (J (yx kk s ty li qt ii pr tg).toArray 57)).heap.size=w.heap.size+1+1:=by rw[zh,xI]
 have r1:=zo w [H next,.slice a l.length cap] 41;have r2:=zo (w.alloc (J #[H next,.slice a l.length cap] 41)) (yx kk s ty li qt ii pr tg) 57;rw[xI] at r2;have jp:Below (w.heap.size+1) (w.alloc (J #[H next,.slice a l.length cap] 41)) ((w.alloc (J #[H next,.slice a l.length cap] 41)).alloc (J (yx kk s ty li qt ii pr tg).toArray 57)):=(Below.refl _ _).alloc (by rw[xI];omega) _;have xq:Hid (yn w ((w.alloc (J #[H next,.slice a l.length cap] 41)).alloc (J (yx kk s ty li qt ii pr tg).toArray 57))):=(lT _ _).alloc (by rw[xI];omega) _;have HX:Hid (_/\_):=⟨zd r1 jp (by omega),r2⟩;have ug:Hid (w.heap.size<((w.alloc (J #[H next,.slice a l.length cap] 41)).alloc (J (yx kk s ty li qt ii pr tg).toArray 57)).heap.size/\w.heap.size+1<((w.alloc (J #[H next,.slice a l.length cap] 41)).alloc (J (yx kk s ty li qt ii pr tg).toArray 57)).heap.size):=⟨by omega,by omega⟩;clear xI uc r1 r2 jp;go_enter Tryz.func99,Tryz.ntmps99;refine lX fun ho xV=>?_;go_wp2_with fail;refine Z xV _ _ ?_;clear xV;generalize ((w.alloc (J #[H next,.slice a l.length cap] 41)).alloc (J (yx kk s ty li qt ii pr tg).toArray 57))=X2 at xq HX ug |-;have HX:Hid (X2.rangeAt w.heap.size 0 [H next,.slice a l.length cap]/\X2.rangeAt (w.heap.size+1) 0 (yx kk s ty li qt ii pr tg)):=Z HX;have k0:X2.cell? (yq w 0)=some (H next):=(Z HX).1 0 _ rfl;have k1:X2.cell? (yq w 1)=some (.slice a l.length cap):=(Z HX).1 1 _ rfl;obtain⟨o0,o1,o2,o3,o4,o5,o6,o7⟩:=yD (Z HX).2;go_wp2_with fail;refine(iK ⟨kk,s,ty,li,qt,ii,pr,tg⟩ X2).mono ?_;rw[du];clear du;rintro e w4 ⟨rfl,xz⟩;have xK:=Q (lW (Z xq) xz);clear xz;go_wp2_with fail;go_ret;exact⟨zt (Z vM).symm,Z xK⟩
def tkS (x:Nat):Int:=if ((FloatKind.f64.format.order x 0==some Ordering.gt)&&((FloatKind.f64.format.order x 4687829947429945344==some Ordering.lt)||(FloatKind.f64.format.order x 4687829947429945344==some Ordering.eq)))=true then tkN x else 0
theorem tkS_ok {x:Nat}(h:tkOk x=true):tkS x=tk x:=by
 unfold tk tkS;rw[if_pos h];unfold tkOk at h;rw[xe] at h;rw[if_pos h.1]
theorem l01Ticks_any (x:Nat)(w:World) :
  Calls Tryz.prog 169 #[yj x] w fun e w'=>e=ym (.tuple #[H (tkS x),.bool (tkOk x)])/\w'=w:=by
 by_cases h0:FloatKind.f64.format.order x 0=some Ordering.gt
 ·by_cases D:FloatKind.f64.format.order x 4687829947429945344=some Ordering.lt\/FloatKind.f64.format.order x 4687829947429945344=some Ordering.eq
  ·obtain⟨r,n,oq,cz,hn⟩:=price_four h0 D;have hn':(n:Int)<9007199254740992:=by omega
   have eR:tkR x=r:=by unfold tkR;rw[show FloatKind.f64.format.mul x 4616189618054758400=some r from oq];rfl
   have eN:tkN x=n:=by unfold tkN;rw[eR,show(FloatKind.f64.decode r).toInt .zero=some (n:Int) from cz];rfl
   have b0:(FloatKind.f64.format.order x 0==some Ordering.gt)=true:=by rw[h0];rfl
   have hm:∀W,(binOp .mul 55 (yj x) (yj 4616189618054758400)).run Tryz.prog W = .ok (yj r) W:=fun W=>by
    have:FloatKind.f64.format.mul x 4616189618054758400=some r:=oq;simp[binOp,Op.floatArith,this]
   have hc:∀W,(convert 55 3 (yj r)).run Tryz.prog W = .ok (H n) W:=fun W=>by
    have E:(FloatKind.f64.decode r).toInt .zero=some (n:Int):=cz
    have A:IntKind.i64.min<=(n:Int)/\(n:Int)<=IntKind.i64.max:=by
     rw[show IntKind.i64.min = -9223372036854775808 by decide,show IntKind.i64.max=9223372036854775807 by decide];omega
    simp[convert,run_underlying Tryz.underlying55,run_underlying Tryz.underlying3,Conv.floatToInt,E,A.1];intro h;omega
   have qv:((FloatKind.f64.format.order x 4687829947429945344==some Ordering.lt)||(FloatKind.f64.format.order x 4687829947429945344==some Ordering.eq))=true:=by
    rcases D with D|D <;> rw[D] <;> rfl
   have ql:tkOk x=(FloatKind.f64.format.order (floatOfInt .f64 n) r==some Ordering.eq):=by unfold tkOk;rw[eN,eR,b0,qv];rfl
   have hS:tkS x=n:=by unfold tkS;rw[b0,qv,eN];rfl
   clear oq cz h0 qv;cases he:(FloatKind.f64.format.order (floatOfInt .f64 n) r==some Ordering.eq)
   all_goals
    have he2:(FloatKind.f64.format.order (floatOfInt .f64 n) r != some Ordering.eq) = !(FloatKind.f64.format.order (floatOfInt .f64 n) r==some Ordering.eq):=rfl;rw[he] at he2;rw[he] at ql
   ·have HT:Hid (tkS x=n/\tkOk x=false):=⟨hS,ql⟩;clear ql eN eR hS;rcases D with D|D
    ·have b1:(FloatKind.f64.format.order x 4687829947429945344==some Ordering.lt)=true:=by rw[D];rfl
     have b2:(FloatKind.f64.format.order x 4687829947429945344==some Ordering.eq)=false:=by rw[D];rfl
     clear D;go_enter Tryz.func169,Tryz.ntmps169;go_wp2;go_ret2;exact⟨by rw[(Z HT).1,(Z HT).2];rfl,rfl⟩
    ·have b1:(FloatKind.f64.format.order x 4687829947429945344==some Ordering.lt)=false:=by rw[D];rfl
     have b2:(FloatKind.f64.format.order x 4687829947429945344==some Ordering.eq)=true:=by rw[D];rfl
     clear D;go_enter Tryz.func169,Tryz.ntmps169;go_wp2;go_ret2;exact⟨by rw[(Z HT).1,(Z HT).2];rfl,rfl⟩
   ·have HT:Hid (tkS x=n/\tkOk x=true):=⟨hS,ql⟩;clear ql eN eR hS;rcases D with D|D
    ·have b1:(FloatKind.f64.format.order x 4687829947429945344==some Ordering.lt)=true:=by rw[D];rfl
     have b2:(FloatKind.f64.format.order x 4687829947429945344==some Ordering.eq)=false:=by rw[D];rfl
     clear D;go_enter Tryz.func169,Tryz.ntmps169;go_wp2;go_ret2;exact⟨by rw[(Z HT).1,(Z HT).2];rfl,rfl⟩
    ·have b1:(FloatKind.f64.format.order x 4687829947429945344==some Ordering.lt)=false:=by rw[D];rfl
     have b2:(FloatKind.f64.format.order x 4687829947429945344==some Ordering.eq)=true:=by rw[D];rfl
     clear D;go_enter Tryz.func169,Tryz.ntmps169;go_wp2;go_ret2;exact⟨by rw[(Z HT).1,(Z HT).2];rfl,rfl⟩
  ·have b0:(FloatKind.f64.format.order x 0==some Ordering.gt)=true:=by rw[h0];rfl
   have b1:(FloatKind.f64.format.order x 4687829947429945344==some Ordering.lt)=false:=by rw[xd];exact fun h=>D (.inl h)
   have b2:(FloatKind.f64.format.order x 4687829947429945344==some Ordering.eq)=false:=by rw[xd];exact fun h=>D (.inr h)
   have ql:tkOk x=false:=by unfold tkOk;rw[b0,b1,b2];rfl
   have HT:Hid (tkS x=0/\tkOk x=false):=⟨by unfold tkS;rw[b0,b1,b2];rfl,ql⟩;clear h0 D ql;go_enter Tryz.func169,Tryz.ntmps169;go_wp2;go_ret2;exact⟨by rw[(Z HT).1,(Z HT).2];rfl,rfl⟩
 ·have b0:(FloatKind.f64.format.order x 0==some Ordering.gt)=false:=by rw[xd];exact h0
  have ql:tkOk x=false:=by unfold tkOk;rw[b0];rfl
  have HT:Hid (tkS x=0/\tkOk x=false):=⟨by unfold tkS;rw[b0];rfl,ql⟩;clear h0 ql;go_enter Tryz.func169,Tryz.ntmps169;go_wp2;go_ret2;exact⟨by rw[(Z HT).1,(Z HT).2];rfl,rfl⟩
theorem iu (t:Int)(w:World) :
  Calls Tryz.prog 126 #[H t] w fun e w'=>e=ym (.bool (dP t))/\w'=w:=by
 by_cases D:t=1
 ·subst D;go_enter Tryz.func126,Tryz.ntmps126;go_wp2_with fail;go_ret;exact⟨rfl,rfl⟩
 have b1:(t==1)=false:=by rw[xd];exact D
 have HK:Hid (dP t=(t==5)):=by
  show _ = _
  by_cases h5:t=5 <;> simp[dP,D,h5]
 clear D;go_enter Tryz.func126,Tryz.ntmps126;go_wp2_with fail;go_ret;exact⟨zO (Z HK).symm,rfl⟩
def eT (sd tk:Int)(o:Od):Bool:=if tk=0 then true else if sd=1 then decide (o.ticks<=tk) else decide (tk<=o.ticks)
theorem l04Crosses_any (sd tk:Int)(o:Od)(w:World) :
  Calls Tryz.prog 171 #[H sd,H tk,.agg (yw o.id o.side o.ticks o.left o.life o.tag).toArray] w fun e w'=>e=ym (.bool (eT sd tk o))/\yn w w':=by
 obtain⟨id,side,ticks,left,life,tag⟩:=o;simp only
 by_cases h0:tk=0
 ·subst h0;go_enter Tryz.func171,Tryz.ntmps171;go_wp2_with fail;go_ret;exact⟨rfl,by go_grown⟩
 have b0:(tk==0)=false:=by rw[xd];exact h0
 by_cases D:sd=1
 ·subst D;have HK:Hid (eT 1 tk ⟨id,side,ticks,left,life,tag⟩=decide (ticks<=tk)):=by show _ = _;simp[eT,h0]
  clear h0;go_enter Tryz.func171,Tryz.ntmps171;go_wp2_with fail;go_ret;exact⟨zO (Z HK).symm,by go_grown⟩
 have b1:(sd==1)=false:=by rw[xd];exact D
 have HK:Hid (eT sd tk ⟨id,side,ticks,left,life,tag⟩=decide (tk<=ticks)):=by show _ = _;simp[eT,h0,D]
 clear h0 D;go_enter Tryz.func171,Tryz.ntmps171;go_wp2_with fail;go_ret;exact⟨zO (Z HK).symm,by go_grown⟩
theorem gU (v:Value)(l:List Od)(id:Int)(w:World)(hr:RdR Od.vs 6 w v l) :
  Calls Tryz.prog 123 #[v,H id] w fun e w'=>e=ym (H (plc l id))/\yn w w':=by
 obtain⟨a,cap,rfl,xD,hc⟩:=hr
 have xp:∀(k:Nat) (c:Od),l[k]? = some c->∃b off,a=some (U b off)/\b<w.heap.size/\w.rangeAt b (off+k*6) c.vs:=by
  intro k c X;obtain⟨b,off,D,E,h3⟩:=hc (by intro h;rw[h] at X;simp at X);exact⟨b,off,D,E,h3 k c X⟩
 have HC:=Q xp;clear xp hc;go_enter Tryz.func123,Tryz.ntmps123;go_wp2_with fail;go_loopw [5] (fun iv wr=>∃(k:Nat),k<=l.length/\iv=H k/\Hid (plc l id=plcF id (l.drop k) k)/\yn w wr) (fun iv _=>l.length-(intOf iv).toNat)
 case atStart=>exact⟨0,Nat.zero_le _,rfl,rfl,Below.refl _ _⟩
 case round =>
  obtain⟨k,X,rfl,uJ,xk⟩:=hrel;have HB:=Q xk;clear xk
  by_cases xH:k<l.length
  ·obtain⟨c,qk⟩:∃c,l[k]? = some c:=⟨_,yH xH⟩
   have HP:Hid (plc l id=if c.id=id then(k:Int) else plcF id (l.drop (k+1)) (k+1)):=by
    have:=Z uJ;rw[drop_get qk] at this;exact this
   obtain⟨b,off,rfl,A,xm⟩:=Z HC k c qk;obtain⟨g0,g1,g2,g3,g4,g5⟩:=zM (zd xm (Z HB) A);have uq:(k:Int)<l.length:=by omega
   clear qk xm A uJ
   by_cases uf:c.id=id
   ·have A:(c.id==id)=true:=by simpa using uf
    have HK:Hid (plc l id=k):=by have:=Z HP;rw[if_pos uf] at this;exact this
    clear uf;go_wp2_with fail;go_ret;exact⟨zt (Z HK).symm,Z HB⟩
   ·have A:(c.id==id)=false:=by simpa using uf
    have HK:Hid (plc l id=plcF id (l.drop (k+1)) (k+1)):=by have:=Z HP;rw[if_neg uf] at this;exact this
    clear uf;go_wp2_with fail;go_roundw
    case rel=>exact⟨k+1,by omega,by go_num,Z HK,Z HB⟩
    case measure=>simp[intOf];omega
  ·have HK:Hid (plc l id = -1):=by
    have h:=Z uJ;rw[xa (by omega)] at h;exact h
   go_wp2_with fail;go_ret;exact⟨zt (Z HK).symm,Z HB⟩
theorem bitsS_any (x:Nat)(w:World) :
  Calls Tryz.prog 201 #[yj x] w fun e w'=>e=ym (.int .u64 (fbit x))/\w'=w:=by
 have A:=fbits;cases h:nanB x with
 | true =>
  have HF:=Q (show fbit x=9221120237041090560 from if_pos h);have h':(FloatKind.f64.format.order x x != some Ordering.eq)=true:=h;clear h;go_enter Tryz.func201,Tryz.ntmps201;go_wp2;go_ret;exact⟨zt (by rw[Z HF];rfl),rfl⟩
 | false =>
  have HF:=Q (show fbit x=x from if_neg (by rw[h];decide));have h':(FloatKind.f64.format.order x x != some Ordering.eq)=false:=h;clear h;go_enter Tryz.func201,Tryz.ntmps201;go_wp2;go_ret;exact⟨zt (by rw[Z HF]),rfl⟩
end Go.Proofs.YtbghmldggahjiaaGreatDoor
