/-.-/
import Derived.Test.YtkofhemdefffpaaGreatDoorPq17
set_option linter.unusedVariables false
set_option maxHeartbeats 6400000
set_option maxRecDepth 100000
namespace Go.Proofs.YtkofhemdefffpaaGreatDoor
open Go.RowKit
def livS (l:List Od):Int:=l.foldl (fun n o=>wrap64 (n+o.left)) 0
theorem liv_step (l:List Od){k:Nat}{o:Od}(h:l[k]? = some o):livS (l.take (k+1))=wrap64 (livS (l.take k)+o.left):=by
 unfold livS;rw[List.take_add_one,h,List.foldl_append];rfl
theorem l04Live_any (next:Int)(v:Value)(l:List Od)(w:World)(hr:RdR Od.vs 6 w v l) :
  Calls Tryz.prog 62 #[.agg #[H next,v]] w fun r w'=>r=yn (.tuple #[H l.length,H (livS l)])/\yp w w':=by
 obtain⟨a,cap,rfl,xC,hc⟩:=hr
 have xp:∀(k:Nat) (c:Od),l[k]? = some c->∃b off,a=some (Y b off)/\b<w.heap.size/\w.rangeAt b (off+k*6) c.vs:=by
  intro k c E;obtain⟨b,off,Z,Q,I⟩:=hc (by intro h;rw[h] at E;simp at E);exact⟨b,off,Z,Q,I k c E⟩
 have HC:=U xp;clear xp hc;have b1:=mc w (me #[H next,.slice a l.length cap] 31);have HX:Hid (_/\_/\_):=⟨zm w [H next,.slice a l.length cap] 31,b1,zi w (me #[H next,.slice a l.length cap] 31)⟩;clear b1;go_enter Tryz.func62,Tryz.ntmps62;refine mg fun hb xw=>?_;go_wp2_with fail;refine O xw _ _ ?_;clear xw;change Hid (World.rangeAt (w.alloc (me #[H next,.slice a l.length cap] 31)) w.heap.size 0 [H next,.slice a l.length cap]/\yp w (w.alloc (me #[H next,.slice a l.length cap] 31))/\(w.alloc (me #[H next,.slice a l.length cap] 31)).heap.size=w.heap.size+1) at HX;generalize (w.alloc (me #[H next,.slice a l.length cap] 31))=xh at HX |-;have c1:xh.cell? (yr w 1)=some (.slice a l.length cap):=(O HX).1 1 _ rfl;go_wp2_with fail;go_loopw [4,5] (fun nv iv wr=>wr=xh/\∃(k:Nat),k<=l.length/\iv=H k/\∃n:Int,nv=H n/\Hid (n=livS (l.take k))) (fun _ iv _=>l.length-(intOf iv).toNat)
 case atStart=>exact⟨rfl,0,Nat.zero_le _,rfl,0,rfl,rfl⟩
 case round =>
  obtain⟨rfl,k,E,rfl,n,rfl,hn⟩:=hrel
  by_cases xK:k<l.length
  ·obtain⟨e,oB⟩:∃e,l[k]? = some e:=⟨_,yI xK⟩;obtain⟨b,off,rfl,K,xo⟩:=O HC k e oB;have uM:=U (liv_step l oB);have ux:(k:Int)<l.length:=by omega
   obtain⟨g0,g1,g2,g3,g4,g5⟩:=zL (zf xo (O HX).2.1 K);clear oB xo K;go_wp2_with fail;go_roundw
   case rel=>exact⟨trivial,k+1,by omega,by go_num,_,rfl,U (by rw[O uM,O hn])⟩
   case measure=>simp[intOf];omega
  ·have ux:¬ (k:Int)<l.length:=by omega
   rw[xa (by omega)] at hn;have HB:=U (O HX).2.1;clear HX;go_wp2_with fail
   try simp only[Exit.inBlock,Exit.then]
   refine bodyPost_ret (by simp[results,Tryz.results62,go_sem];try rfl) rfl ?_;exact⟨by rw[O hn],O HB⟩
def cntM (t:Tot)(e:Ev):Tot:=
 if e.kind=1 then { t with ac:=wrap64 (t.ac+1) } else if e.kind=2 then { t with rf:=wrap64 (t.rf+1) }
 else if e.kind=3 then { t with tr:=wrap64 (t.tr+1),vo:=wrap64 (t.vo+e.qty),no:=wrap64 (t.no+wrap64 (e.qty*e.price)),le:=wrap64 (t.le-e.qty) }
 else if e.kind=4 then { t with li:=wrap64 (t.li+1),le:=wrap64 (t.le+e.qty) } else t
theorem l04Count_any (t:Tot)(e:Ev)(w:World) :
  Calls Tryz.prog 61 #[.agg #[H t.gr,H t.ac,H t.rf,H t.tr,H t.vo,H t.no,H t.li,H t.le],.agg (yw e.kind e.cmd.k e.cmd.s e.cmd.t e.cmd.l e.cmd.q e.cmd.i e.cmd.p e.cmd.g e.id e.other e.qty e.price e.reason).toArray] w fun r w'=>r=yn (.agg #[H (cntM t e).gr,H (cntM t e).ac,H (cntM t e).rf,H (cntM t e).tr,H (cntM t e).vo,H (cntM t e).no,H (cntM t e).li,H (cntM t e).le])/\yp w w':=by
 have HM:Hid (cntM t e=if e.kind=1 then { t with ac:=wrap64 (t.ac+1) } else if e.kind=2 then { t with rf:=wrap64 (t.rf+1) }
  else if e.kind=3 then { t with tr:=wrap64 (t.tr+1),vo:=wrap64 (t.vo+e.qty),no:=wrap64 (t.no+wrap64 (e.qty*e.price)),le:=wrap64 (t.le-e.qty) }
  else if e.kind=4 then { t with li:=wrap64 (t.li+1),le:=wrap64 (t.le+e.qty) } else t):=rfl
 generalize cntM t e=ym at HM |-;obtain⟨uS,uR,uU,uV,uW,uT,uD,vk⟩:=t;simp only at HM |-;have hsf:=sfl;have xG:=zi w (me #[H uS,H uR,H uU,H uV,H uW,H uT,H uD,H vk] 44);have ug:((w.alloc (me #[H uS,H uR,H uU,H uV,H uW,H uT,H uD,H vk] 44)).alloc (me (yw e.kind e.cmd.k e.cmd.s e.cmd.t e.cmd.l e.cmd.q e.cmd.i e.cmd.p e.cmd.g e.id e.other e.qty e.price e.reason).toArray 78)).heap.size=w.heap.size+1+1:=by rw[zi,xG]
 have qv:(((w.alloc (me #[H uS,H uR,H uU,H uV,H uW,H uT,H uD,H vk] 44)).alloc (me (yw e.kind e.cmd.k e.cmd.s e.cmd.t e.cmd.l e.cmd.q e.cmd.i e.cmd.p e.cmd.g e.id e.other e.qty e.price e.reason).toArray 78)).alloc (me #[H 0,H 0,H 0,H 0,H 0,H 0,H 0,H 0] 44)).heap.size=w.heap.size+1+1+1:=by rw[zi,ug]
 have r1:=zm w [H uS,H uR,H uU,H uV,H uW,H uT,H uD,H vk] 44;have t1:=zM w [H uS,H uR,H uU,H uV,H uW,H uT,H uD,H vk] 44;have r2:=zm (w.alloc (me #[H uS,H uR,H uU,H uV,H uW,H uT,H uD,H vk] 44)) (yw e.kind e.cmd.k e.cmd.s e.cmd.t e.cmd.l e.cmd.q e.cmd.i e.cmd.p e.cmd.g e.id e.other e.qty e.price e.reason) 78;have t3:=zM ((w.alloc (me #[H uS,H uR,H uU,H uV,H uW,H uT,H uD,H vk] 44)).alloc (me (yw e.kind e.cmd.k e.cmd.s e.cmd.t e.cmd.l e.cmd.q e.cmd.i e.cmd.p e.cmd.g e.id e.other e.qty e.price e.reason).toArray 78)) [H 0,H 0,H 0,H 0,H 0,H 0,H 0,H 0] 44;rw[ug] at t3;rw[xG] at r2;have b1:=mc w (me #[H uS,H uR,H uU,H uV,H uW,H uT,H uD,H vk] 44);have b2:Below (w.heap.size+1) (w.alloc (me #[H uS,H uR,H uU,H uV,H uW,H uT,H uD,H vk] 44)) ((w.alloc (me #[H uS,H uR,H uU,H uV,H uW,H uT,H uD,H vk] 44)).alloc (me (yw e.kind e.cmd.k e.cmd.s e.cmd.t e.cmd.l e.cmd.q e.cmd.i e.cmd.p e.cmd.g e.id e.other e.qty e.price e.reason).toArray 78)):=(Below.refl _ _).alloc (by omega) _;have b3:Below (w.heap.size+1+1) ((w.alloc (me #[H uS,H uR,H uU,H uV,H uW,H uT,H uD,H vk] 44)).alloc (me (yw e.kind e.cmd.k e.cmd.s e.cmd.t e.cmd.l e.cmd.q e.cmd.i e.cmd.p e.cmd.g e.id e.other e.qty e.price e.reason).toArray 78)) (((w.alloc (me #[H uS,H uR,H uU,H uV,H uW,H uT,H uD,H vk] 44)).alloc (me (yw e.kind e.cmd.k e.cmd.s e.cmd.t e.cmd.l e.cmd.q e.cmd.i e.cmd.p e.cmd.g e.id e.other e.qty e.price e.reason).toArray 78)).alloc (me #[H 0,H 0,H 0,H 0,H 0,H 0,H 0,H 0] 44)):=(Below.refl _ _).alloc (by omega) _;have HX:Hid (_/\_/\_/\_/\_):=⟨zf (zf r1 b2 (by omega)) b3 (by omega),zk (zk t1 b2 (by omega)) b3 (by omega),t3,(b1.trans (b2.mono (by omega))).trans (b3.mono (by omega)),Nat.le_of_eq qv.symm⟩;have qp:=U (zf r2 b3 (by omega));clear xG ug qv r1 r2 t1 t3 b1 b2 b3;go_enter Tryz.func61,Tryz.ntmps61;refine mg fun hb xw=>?_;go_wp2_with fail;refine O xw _ _ ?_;clear xw;generalize (((w.alloc (me #[H uS,H uR,H uU,H uV,H uW,H uT,H uD,H vk] 44)).alloc (me (yw e.kind e.cmd.k e.cmd.s e.cmd.t e.cmd.l e.cmd.q e.cmd.i e.cmd.p e.cmd.g e.id e.other e.qty e.price e.reason).toArray 78)).alloc (me #[H 0,H 0,H 0,H 0,H 0,H 0,H 0,H 0] 44))=xh at HX qp |-;have HX:Hid (xh.rangeAt w.heap.size 0 [H uS,H uR,H uU,H uV,H uW,H uT,H uD,H vk]/\xh.there w.heap.size 0 8/\xh.there (w.heap.size+1+1) 0 8/\yp w xh/\w.heap.size+1+1+1<=xh.heap.size):=O HX;obtain⟨g0,g1,g2,g3,g4,g5,g6,g7,g8,g9,kN,jR,ql,pA⟩:=ev_cells (O qp);clear g1 g2 g3 g4 g5 g6 g7 g8 g9 kN pA qp;simp only[Nat.zero_add] at jR ql;have d0:xh.cell? (yr w 0)=some (H uS):=(O HX).1 0 _ rfl;have p0:xh.frozen? (yr w 0)=false:=by have:=((O HX).2.1 0 (by omega)).2;rwa[Nat.zero_add] at this
 have d1:xh.cell? (yr w 1)=some (H uR):=(O HX).1 1 _ rfl;have p1:xh.frozen? (yr w 1)=false:=by have:=((O HX).2.1 1 (by omega)).2;rwa[Nat.zero_add] at this
 have d2:xh.cell? (yr w 2)=some (H uU):=(O HX).1 2 _ rfl;have p2:xh.frozen? (yr w 2)=false:=by have:=((O HX).2.1 2 (by omega)).2;rwa[Nat.zero_add] at this
 have d3:xh.cell? (yr w 3)=some (H uV):=(O HX).1 3 _ rfl;have p3:xh.frozen? (yr w 3)=false:=by have:=((O HX).2.1 3 (by omega)).2;rwa[Nat.zero_add] at this
 have d4:xh.cell? (yr w 4)=some (H uW):=(O HX).1 4 _ rfl;have p4:xh.frozen? (yr w 4)=false:=by have:=((O HX).2.1 4 (by omega)).2;rwa[Nat.zero_add] at this
 have d5:xh.cell? (yr w 5)=some (H uT):=(O HX).1 5 _ rfl;have p5:xh.frozen? (yr w 5)=false:=by have:=((O HX).2.1 5 (by omega)).2;rwa[Nat.zero_add] at this
 have d6:xh.cell? (yr w 6)=some (H uD):=(O HX).1 6 _ rfl;have p6:xh.frozen? (yr w 6)=false:=by have:=((O HX).2.1 6 (by omega)).2;rwa[Nat.zero_add] at this
 have d7:xh.cell? (yr w 7)=some (H vk):=(O HX).1 7 _ rfl;have p7:xh.frozen? (yr w 7)=false:=by have:=((O HX).2.1 7 (by omega)).2;rwa[Nat.zero_add] at this
 refine mg fun hb xw=>?_
 have HT:Hid (∀(V:World) (T:Tot) (u5 u6 u7 u8 u9 u10 u11 u12 u13 u14 u15 u16 u17 u18 u19 u20 u21 u22 u23 u24 u25 u26 u27 u28 u29 u30 u31 u32 u33 u34 u35 u36 u37 u38 u39 u40 u41 u42 u43 u44 u45 u46 u47 u48 u49 u50 u51 u52 u53 u54 u55 u56 u57:Value),ym=T->(V.rangeAt w.heap.size 0 T.vs/\V.there w.heap.size 0 8/\V.there (w.heap.size+1+1) 0 8/\yp w V/\w.heap.size+1+1+1<=V.heap.size)->hb { tmps:=#[.agg #[H uS,H uR,H uU,H uV,H uW,H uT,H uD,H vk],.agg (yw e.kind e.cmd.k e.cmd.s e.cmd.t e.cmd.l e.cmd.q e.cmd.i e.cmd.p e.cmd.g e.id e.other e.qty e.price e.reason).toArray,yq w 0,h3 (w.heap.size+1) 0,h3 (w.heap.size+1+1) 0,u5,u6,u7,u8,u9,u10,u11,u12,u13,u14,u15,u16,u17,u18,u19,u20,u21,u22,u23,u24,u25,u26,u27,u28,u29,u30,u31,u32,u33,u34,u35,u36,u37,u38,u39,u40,u41,u42,u43,u44,u45,u46,u47,u48,u49,u50,u51,u52,u53,u54,u55,u56,u57,M],defers:=[] } V):=by
  intro V T u5 u6 u7 u8 u9 u10 u11 u12 u13 u14 u15 u16 u17 u18 u19 u20 u21 u22 u23 u24 u25 u26 u27 u28 u29 u30 u31 u32 u33 u34 u35 u36 u37 u38 u39 u40 u41 u42 u43 u44 u45 u46 u47 u48 u49 u50 u51 u52 u53 u54 u55 u56 u57 hMT ue;have HY:=U ue;have pK:=U hMT;clear ue hMT HM HX g0 jR ql d0 p0 d1 p1 d2 p2 d3 p3 d4 p4 d5 p5 d6 p6 d7 p7;obtain⟨agr,aac,arf,atr,avo,ano,ali,ale⟩:=T;have c0:V.cell? (yr w 0)=some (H agr):=(O HY).1 0 _ rfl;obtain⟨y0,z0,q0⟩:=zh (O HY).2.2.1 (j:=0) (by omega);have c1:V.cell? (yr w 1)=some (H aac):=(O HY).1 1 _ rfl;obtain⟨y1,z1,q1⟩:=zh (O HY).2.2.1 (j:=1) (by omega);have c2:V.cell? (yr w 2)=some (H arf):=(O HY).1 2 _ rfl;obtain⟨y2,z2,q2⟩:=zh (O HY).2.2.1 (j:=2) (by omega);have c3:V.cell? (yr w 3)=some (H atr):=(O HY).1 3 _ rfl;obtain⟨y3,z3,q3⟩:=zh (O HY).2.2.1 (j:=3) (by omega);have c4:V.cell? (yr w 4)=some (H avo):=(O HY).1 4 _ rfl;obtain⟨y4,z4,q4⟩:=zh (O HY).2.2.1 (j:=4) (by omega);have c5:V.cell? (yr w 5)=some (H ano):=(O HY).1 5 _ rfl;obtain⟨y5,z5,q5⟩:=zh (O HY).2.2.1 (j:=5) (by omega);have c6:V.cell? (yr w 6)=some (H ali):=(O HY).1 6 _ rfl;obtain⟨y6,z6,q6⟩:=zh (O HY).2.2.1 (j:=6) (by omega);have c7:V.cell? (yr w 7)=some (H ale):=(O HY).1 7 _ rfl;obtain⟨y7,z7,q7⟩:=zh (O HY).2.2.1 (j:=7) (by omega);have vI:=U (yY V (w.heap.size+1+1) 0 [H agr,H aac,H arf,H atr,H avo,H ano,H ali,H ale] (fun j hj=>(O HY).2.2.1 j hj));have oP:=U (zj (w.heap.size+1+1) (by omega) [H agr,H aac,H arf,H atr,H avo,H ano,H ali,H ale] 0 V (O HY).2.2.2.1);refine O xw _ _ ?_;clear xw;go_wp2_with fail;change bodyPost _ _ _ _ _ (V.setCells (w.heap.size+1+1) 0 [H agr,H aac,H arf,H atr,H avo,H ano,H ali,H ale]);generalize V.setCells (w.heap.size+1+1) 0 [H agr,H aac,H arf,H atr,H avo,H ano,H ali,H ale]=WE at vI oP |-;obtain⟨d0,d1,d2,d3,d4,d5,d6,d7⟩:=yE (O vI);refine bodyPost_ret (by simp[results,Tryz.results61,go_sem,d0,d1,d2,d3,d4,d5,d6,d7];try rfl) rfl ?_;exact⟨by rw[O pK],O oP⟩
 clear xw
 by_cases Z:e.kind=1
 ·have b1:(e.kind==1)=true:=by simpa using Z
  have HE:=U ((O HM).trans (if_pos Z));clear HM Z;go_wp2_with fail;exact O HT _ (Tot.mk uS (wrap64 (uR+1)) uU uV uW uT uD vk) _ _ _ _ _ _ _ _ _ _ _ _ _ _ _ _ _ _ _ _ _ _ _ _ _ _ _ _ _ _ _ _ _ _ _ _ _ _ _ _ _ _ _ _ _ _ _ _ _ _ _ _ _ (O HE) (keepB (O HX) 1 (by simp) _)
 have b1:(e.kind==1)=false:=by rw[xe];exact Z
 by_cases Q:e.kind=2
 ·have b2:(e.kind==2)=true:=by simpa using Q
  have HE:=U ((O HM).trans ((if_neg Z).trans (if_pos Q)));clear HM Z Q;go_wp2_with fail;exact O HT _ (Tot.mk uS uR (wrap64 (uU+1)) uV uW uT uD vk) _ _ _ _ _ _ _ _ _ _ _ _ _ _ _ _ _ _ _ _ _ _ _ _ _ _ _ _ _ _ _ _ _ _ _ _ _ _ _ _ _ _ _ _ _ _ _ _ _ _ _ _ _ (O HE) (keepB (O HX) 2 (by simp) _)
 have b2:(e.kind==2)=false:=by rw[xe];exact Q
 by_cases I:e.kind=3
 ·have b3:(e.kind==3)=true:=by simpa using I
  have HE:=U ((O HM).trans ((if_neg Z).trans ((if_neg Q).trans (if_pos I))));clear HM Z Q I;go_wp2_with fail;exact O HT _ (Tot.mk uS uR uU (wrap64 (uV+1)) (wrap64 (uW+e.qty)) (wrap64 (uT+wrap64 (e.qty*e.price))) uD (wrap64 (vk-e.qty))) _ _ _ _ _ _ _ _ _ _ _ _ _ _ _ _ _ _ _ _ _ _ _ _ _ _ _ _ _ _ _ _ _ _ _ _ _ _ _ _ _ _ _ _ _ _ _ _ _ _ _ _ _ (O HE) (keepB (keepB (keepB (keepB (O HX) 3 (by simp) _) 4 (by simp) _) 5 (by simp) _) 7 (by simp) _)
 have b3:(e.kind==3)=false:=by rw[xe];exact I
 by_cases h4:e.kind=4
 ·have b4:(e.kind==4)=true:=by simpa using h4
  have HE:=U ((O HM).trans ((if_neg Z).trans ((if_neg Q).trans ((if_neg I).trans (if_pos h4)))));clear HM Z Q I h4;go_wp2_with fail;exact O HT _ (Tot.mk uS uR uU uV uW uT (wrap64 (uD+1)) (wrap64 (vk+e.qty))) _ _ _ _ _ _ _ _ _ _ _ _ _ _ _ _ _ _ _ _ _ _ _ _ _ _ _ _ _ _ _ _ _ _ _ _ _ _ _ _ _ _ _ _ _ _ _ _ _ _ _ _ _ (O HE) (keepB (keepB (O HX) 6 (by simp) _) 7 (by simp) _)
 have b4:(e.kind==4)=false:=by rw[xe];exact h4
 have HE:=U ((O HM).trans ((if_neg Z).trans ((if_neg Q).trans ((if_neg I).trans (if_neg h4)))));clear HM Z Q I h4;go_wp2_with fail;exact O HT _ (Tot.mk uS uR uU uV uW uT uD vk) _ _ _ _ _ _ _ _ _ _ _ _ _ _ _ _ _ _ _ _ _ _ _ _ _ _ _ _ _ _ _ _ _ _ _ _ _ _ _ _ _ _ _ _ _ _ _ _ _ _ _ _ _ (O HE) (O HX)
end Go.Proofs.YtkofhemdefffpaaGreatDoor
