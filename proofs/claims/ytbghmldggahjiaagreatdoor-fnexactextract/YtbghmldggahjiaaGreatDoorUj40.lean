/-.-/
import Derived.Test.YtbghmldggahjiaaGreatDoorUj39
set_option linter.unusedVariables false
set_option maxHeartbeats 6400000
set_option maxRecDepth 100000
namespace Go.Proofs.YtbghmldggahjiaaGreatDoor
open Go.RowKit
structure R3 (C:Nat->Value->Prop) (O:Nat) (ta ev:Value) (us:List Value) (B0:World) (L:List Od) (x:List Bool) (f:Nat->Value) (W:World):Prop where
 c:∀j,x[j]? = some true->C j (f j)
 bel:x[24]? = some false->Below B0.heap.size B0 W
 m17:x[17]? = some true->∃v,f 17 = .tuple #[v,ta,ev]/\(x[24]? = some false->ORow W B0.heap.size v L)
 m18:x[18]? = some true->f 18=f 17
 m19:x[19]? = some true->f 17 = .tuple #[f 19,ta,ev]
 z:x[24]? = some true->∃W0,(ORow W0 B0.heap.size (f 19) L/\Below B0.heap.size B0 W0)/\(x[27]? = some false->W=W0.setCell ⟨O,1,none⟩ (f 19))/\(x[27]? = some true->W=World.setCells (W0.setCell ⟨O,1,none⟩ (f 19)) O 2 us)
def R3A (yl:(Nat->Value)->Act)(C:Nat->Value->Prop)(O:Nat)(ta ev:Value)(us:List Value)(B0:World)(L:List Od)(x:List Bool)(hb:Act)(W:World):Prop:=∃f,hb=yl f/\R3 C O ta ev us B0 L x f W
section
variable {C:Nat->Value->Prop} {O:Nat} {ta ev:Value} {us:List Value} {B0 W W':World} {L:List Od} {x:List Bool} {f:Nat->Value}
theorem r3_grow (h:R3 C O ta ev us B0 L x f W)(n:x[24]? = some false)(A:yn W W'):R3 C O ta ev us B0 L x f W':=
 ⟨h.c,fun _=>(h.bel n).trans (A.mono (h.bel n).size),fun a=>by
  obtain⟨v,D,E⟩:=h.m17 a;exact⟨v,D,fun n=>zK (E n) A⟩,h.m18,h.m19,fun a=>by rw[n] at a;cases a⟩
theorem eo (h:R3 C O ta ev us B0 L x f W)(i:Nat)(v:Value)(hv:C i v)(hi:i≠17/\i≠18/\i≠19/\i≠24/\i≠27):R3 C O ta ev us B0 L (x.set i true) (upd f i v) W:=by
 obtain⟨D,h6,jz,qv,jJ⟩:=hi;refine⟨zD h.c hv,?_,?_,?_,?_,?_⟩ <;> simp only[gq D,gq h6,gq jz,gq qv,gq jJ,zn f v D.symm,zn f v h6.symm,zn f v jz.symm]
 ·exact h.bel
 ·exact h.m17
 ·exact h.m18
 ·exact h.m19
 ·exact h.z
theorem r3_17 (h:R3 C O ta ev us B0 L x f W)(n:x[24]? = some false)(n18:x[18]? = some false)(n19:x[19]? = some false)(hc:∀v,C 17 v){v:Value}(K:ORow W' B0.heap.size v L)(A:yn W W'):R3 C O ta ev us B0 L (x.set 17 true) (upd f 17 (.tuple #[v,ta,ev])) W':=by
 have M:=r3_grow h n A;refine⟨zD M.c (hc _),fun _=>M.bel n,fun _=>⟨v,zr _ _ _,fun _=>K⟩,?_,?_,?_⟩
 ·intro e;rw[gq (by decide),n18] at e;cases e
 ·intro e;rw[gq (by decide),n19] at e;cases e
 ·intro e;rw[gq (by decide),n] at e;cases e
theorem r3_18 (h:R3 C O ta ev us B0 L x f W)(hc:∀v,C 18 v):R3 C O ta ev us B0 L (x.set 18 true) (upd f 18 (f 17)) W:=by
 refine⟨zD h.c (hc _),?_,?_,fun _=>?_,?_,?_⟩
 ·rw[gq (by decide)];exact h.bel
 ·rw[gq (by decide),gq (by decide),zn _ _ (by decide)];exact h.m17
 ·rw[zr,zn _ _ (by decide)]
 ·rw[gq (by decide),zn _ _ (by decide),zn _ _ (by decide)];exact h.m19
 ·rw[gq (by decide),gq (by decide),zn _ _ (by decide)];exact h.z
theorem r3_19 (h:R3 C O ta ev us B0 L x f W)(n:x[24]? = some false)(hc:∀v,C 19 v){v:Value}(hv:f 17 = .tuple #[v,ta,ev]):R3 C O ta ev us B0 L (x.set 19 true) (upd f 19 v) W:=by
 refine⟨zD h.c (hc _),?_,?_,?_,fun _=>?_,?_⟩
 ·rw[gq (by decide)];exact h.bel
 ·rw[gq (by decide),gq (by decide),zn _ _ (by decide)];exact h.m17
 ·rw[gq (by decide),zn _ _ (by decide),zn _ _ (by decide)];exact h.m18
 ·rw[zr,zn _ _ (by decide)];exact hv
 ·intro e;rw[gq (by decide),n] at e;cases e
theorem r3_row (h:R3 C O ta ev us B0 L x f W)(n:x[24]? = some false)(jV:x[17]? = some true)(h19:x[19]? = some true):ORow W B0.heap.size (f 19) L:=by
 obtain⟨v,D,E⟩:=h.m17 jV;have h3:=h.m19 h19;rw[D] at h3;simp only[Value.tuple.injEq,Array.mk.injEq,List.cons.injEq,and_true] at h3;rw[<- h3];exact E n
theorem r3_24 (h:R3 C O ta ev us B0 L x f W)(n:x[24]? = some false)(n27:x[27]? = some false)(jV:x[17]? = some true)(h19:x[19]? = some true)(hc:∀v,C 24 v):R3 C O ta ev us B0 L (x.set 24 true) f (W.setCell (U O 1) (f 19)):=by
 refine⟨fun j hj=>?_,?_,fun _=>?_,?_,?_,fun _=>⟨W,⟨r3_row h n jV h19,h.bel n⟩,fun _=>rfl,fun e=>?_⟩⟩
 ·by_cases hjm:j=24
  ·subst hjm;exact hc _
  ·rw[gq (fun e=>hjm e.symm)] at hj;exact h.c j hj
 ·intro e;rw[gqs n] at e;cases e
 ·obtain⟨v,D,_⟩:=h.m17 jV;exact⟨v,D,fun e=>by rw[gqs n] at e;cases e⟩
 ·rw[gq (by decide)];exact h.m18
 ·rw[gq (by decide)];exact h.m19
 ·rw[gq (by decide),n27] at e;cases e
theorem r3_27 (h:R3 C O ta ev us B0 L x f W)(n27:x[27]? = some false)(h24:x[24]? = some true)(hc:∀v,C 27 v):R3 C O ta ev us B0 L (x.set 27 true) f (World.setCells W O 2 us):=by
 obtain⟨W0,hA,D,_⟩:=h.z h24;refine⟨fun j hj=>?_,?_,fun e=>?_,?_,?_,fun _=>⟨W0,hA,fun e=>?_,fun _=>?_⟩⟩
 ·by_cases hjm:j=27
  ·subst hjm;exact hc _
  ·rw[gq (fun e=>hjm e.symm)] at hj;exact h.c j hj
 ·intro e;rw[gq (by decide),h24] at e;cases e
 ·rw[gq (by decide)] at e;obtain⟨v,D,_⟩:=h.m17 e;exact⟨v,D,fun e=>by rw[gq (by decide),h24] at e;cases e⟩
 ·rw[gq (by decide)];exact h.m18
 ·rw[gq (by decide)];exact h.m19
 ·rw[gqs n27] at e;cases e
 ·rw[D n27]
end
theorem take_3 {O B:Nat}{vl vd va:Value}{g:Gr}{t:Od}{kd n0:Int}{dy l0:List Od}(ck cs ct cl cq ci:Int)(cp:Nat)(cg:ByteArray)(id xh qty xi xg:Int)(w:World)(h:MS O B w vl vd va g t kd n0 dy l0)(hi:GI g)(hm:MR g t kd dy)(he:okE ⟨3,⟨ck,cs,ct,cl,cq,ci,cp,cg⟩,id,xh,qty,xi,xg⟩=true)(hr:zx g ⟨3,⟨ck,cs,ct,cl,cq,ci,cp,cg⟩,id,xh,qty,xi,xg⟩=0):Calls Tryz.prog 85 #[xj O 0,.agg (yv 3 ck cs ct cl cq ci cp cg id xh qty xi xg).toArray] w fun x w'=>TakK O B vl.ownBlock va n0 l0 g t kd dy ⟨3,⟨ck,cs,ct,cl,cq,ci,cp,cg⟩,id,xh,qty,xi,xg⟩ w x w':=by
 generalize hob:vl.ownBlock=ob;have HOB:=Q hob;clear hob;have hsf:=sfl;have hO:=h.lt;have jA:=h.base;have jF:Hid (∀w' qd vw,KO O ob w w'->MS O B w' qd vw va (dK g ⟨3,⟨ck,cs,ct,cl,cq,ci,cp,cg⟩,id,xh,qty,xi,xg⟩) (tkM g t ⟨3,⟨ck,cs,ct,cl,cq,ci,cp,cg⟩,id,xh,qty,xi,xg⟩) (kdM kd ⟨3,⟨ck,cs,ct,cl,cq,ci,cp,cg⟩,id,xh,qty,xi,xg⟩) n0 (dyM g dy ⟨3,⟨ck,cs,ct,cl,cq,ci,cp,cg⟩,id,xh,qty,xi,xg⟩) l0->TakK O B ob va n0 l0 g t kd dy ⟨3,⟨ck,cs,ct,cl,cq,ci,cp,cg⟩,id,xh,qty,xi,xg⟩ w (.returned (.tuple #[])) w'):=fun w' qd vw D E=>⟨rfl,D,qd,vw,E⟩;obtain⟨D,oS,o,qz,-,uf,hot,hqt,-⟩:=rule3 (e:=⟨3,⟨ck,cs,ct,cl,cq,ci,cp,cg⟩,id,xh,qty,xi,xg⟩) rfl hr;simp only at uf hot hqt;have oD:t=g.tk:=hm.same oS;have qZ:=hi.good (.inr oS);obtain⟨k,vC⟩:∃k:Nat,g.l[k]? = some o:=List.getElem?_of_mem (fY qz).1;have uJ:plc g.l xh=k:=by rw[hot];exact eX qZ.rise vC
 have ua:Hid (dK g ⟨3,⟨ck,cs,ct,cl,cq,ci,cp,cg⟩,id,xh,qty,xi,xg⟩ = { g with l:=(dL g.l k o qty),tk:={ g.tk with left:=g.tk.left-qty } }):=by show _ = _;rw[step3 rfl];simp only[begG,fi uJ vC];rw[if_neg (by omega)]
 have ue:Hid (tkM g t ⟨3,⟨ck,cs,ct,cl,cq,ci,cp,cg⟩,id,xh,qty,xi,xg⟩ = { t with left:=t.left-qty }/\kdM kd ⟨3,⟨ck,cs,ct,cl,cq,ci,cp,cg⟩,id,xh,qty,xi,xg⟩=kd/\dyM g dy ⟨3,⟨ck,cs,ct,cl,cq,ci,cp,cg⟩,id,xh,qty,xi,xg⟩=dy):=⟨rfl,rfl,rfl⟩;have HQ:Hid (min t.left o.left=qty):=by show _ = _;rw[oD,hqt]
 have xy:g.l ≠ []:=by intro h;rw[h] at vC;simp at vC
 obtain⟨gb,cap,rfl,xC,hBg,hgw⟩:=fM h.row xy;have oo:=hi.len;have HIO:=Q vC;have hbo:=qZ.left o (fY qz).1;have HTL:Hid (0<=t.left/\t.left<=1000000/\0<=o.left/\o.left<=1000000):=by have:=hi.l0;have:=hi.l1;rw[oD];exact⟨by omega,by omega,by omega,by omega⟩
 have kb:=Q uJ;have hbn:(g.bg != 0)=true:=by simp[D]
 have oX:Hid (g.bg≠0):=by show _ ≠ _;omega
 have HLN:Hid ((dL g.l k o qty).length<=1073741824):=by
  show _ <= _;unfold dL;split
  ·simp;omega
  ·simp;omega
 clear D oS qz uf hot hqt oD qZ uJ vC hbo;generalize TakK O B ob va n0 l0 g t kd dy ⟨3,⟨ck,cs,ct,cl,cq,ci,cp,cg⟩,id,xh,qty,xi,xg⟩ w=C at jF |-;obtain⟨xA,HX⟩:=lY w (yv 3 ck cs ct cl cq ci cp cg id xh qty xi xg) 89;have HM:=Q (zv h xA);have HB:Hid (KO O ob w (w.alloc (J (yv 3 ck cs ct cl cq ci cp cg id xh qty xi xg).toArray 89))):=ko_of xA;clear h xA hi hm he hr;go_enter Tryz.func85,Tryz.ntmps85;refine lX fun ho HK=>?_;go_wp2_with fail;refine Z HK _ _ ?_;clear HK;generalize (w.alloc (J (yv 3 ck cs ct cl cq ci cp cg id xh qty xi xg).toArray 89))=W1 at HX HM HB |-;have c9:=Y (Z HM).box 9 rfl;have q9:=zc (Z HM).box 9 (by show 9<13;decide);have xq:Hid (KO O ob w (World.setCells W1 O 9 [.bool true])):=et (Z HB) 9 _;have xT:Hid (MS O B (World.setCells W1 O 9 [.bool true]) (.slice (some (U gb 0)) g.l.length cap) vd va g t kd n0 dy l0):=eS (Z HM) 9 [.bool true] (by simp) (by simp[msV,hbn]) rfl (fun h=>absurd h (Z oX));have xF:Hid (Bx (World.setCells W1 O 9 [.bool true]) w.heap.size (yv 3 ck cs ct cl cq ci cp cg id xh qty xi xg)):=zQ (Z HX) (ep O w.heap.size (by omega) _ 9 W1);clear HX HM HB hbn;refine lX fun ho HK=>?_;go_wp2_with fail;refine Z HK _ _ ?_;clear HK;change Code.wp _ _ _ _ (World.setCells W1 O 9 [.bool true]);generalize World.setCells W1 O 9 [.bool true]=hk at xq xT xF |-;have uU:Hid (RdR Od.vs 6 hk (.slice (some (U gb 0)) g.l.length cap) g.l):=zP (Z xT).row (yN oo (by decide));have hSX:w.heap.size<hk.heap.size:=yK _ _ (Y (Z xF) 0 rfl);have e0:=Y (Z xF) 0 rfl;clear c9 q9;go_wp2_with fail;refine zL (R3A (fun f=>{ tmps:=#[xj O 0,.agg (yv 3 ck cs ct cl cq ci cp cg id xh qty xi xg).toArray,F,xj w.heap.size 0,F,xj O 0,xj O 0,xj O 9,xj w.heap.size 0,H 3,.bool false,.bool false,F,F,F,F,F,F,F,F,F,F,F,F,F,F,F,F,F,F,F,F,F,F,F,.bool true,.bool true,f 18,f 0,f 1,f 2,f 3,f 4,f 5,f 6,f 7,f 8,f 9,f 10,f 11,f 12,f 13,f 14,f 15,f 16,f 17,f 19,f 20,f 21,f 22,f 23,f 25,f 26,F,F,F,F,F,F,F,F,F,F,F,F,F,F,F,F,F,F,F,F,F,F,F,F,F,F,F,F,F,F,F,F,F,F,F,F,F,F,F,F,F,F,F,F,F,F,F,F,F,F,F,F,F,F,F,F,F,F,F,F,F,F,F,F,F,F,F,F,F,F,F,F,F,F,F,F,F,F,F,F,F,F,F,F,F,F,F,F,F,F,F,F,F,F,F,F,F,F,F,F,F,F,F,F,F,F,F,F,F,F,F,F,F,F,F,F,F,F,F,F,F,F],defers:=[] }) (fun j v=>∀u,([some (xj O 0),some (xj O 0),some (xj O 0),some (xj O 0),some (xj O 1),some (.slice (some (U gb 0)) g.l.length cap),some (xj O 0),some (xj O 0),some (xj O 2),some (.agg (yw t.id t.side t.ticks t.left t.life t.tag).toArray),some (xj O 0),some (xj O 0),some (xj O 1),some (.slice (some (U gb 0)) g.l.length cap),some (xj w.heap.size 10),some (H xh),some (H k),none,none,none,some (.agg (yw t.id t.side t.ticks (t.left-qty) t.life t.tag).toArray),some (.agg (Ev.vs (trE t.id o.id qty o.ticks)).toArray),some (xj O 0),some (xj O 1),none,some (xj O 0),some (xj O 2),none]:List (Option Value))[j]? = some (some u)->v=u) O (.agg (yw t.id t.side t.ticks (t.left-qty) t.life t.tag).toArray) (.agg (Ev.vs (trE t.id o.id qty o.ticks)).toArray) (yw t.id t.side t.ticks (t.left-qty) t.life t.tag) hk (dL g.l k o qty)) (by kernel_rfl) ?_ ?_ ?_
 ·have vZ:∀j,(List.replicate 28 false)[j]? = some true->False:=fun j hj=>by rw[yI] at hj;split at hj <;> simp at hj
  exact⟨fun _=>F,rfl,⟨fun j hj=>(vZ j hj).elim,fun _=>⟨rfl,rfl,rfl,Nat.le_refl _,fun _ _=>rfl⟩,fun h=>(vZ _ h).elim,fun h=>(vZ _ h).elim,fun h=>(vZ _ h).elim,fun h=>(vZ _ h).elim⟩⟩
 ·rintro x hb zb ⟨f,rfl,hR⟩ hx xU;have xv:=iw xU hx (by kernel_rfl);obtain⟨W0,⟨K,xA⟩,-,eY⟩:=hR.z (xv 24 (by simp));have eY:=eY (xv 27 (by simp));have kU:=Q (zv (Z xT) xA);have xK:=Q (ic (Z xq) xA);have cQ:=Q (ex K (Z xT).base);clear hR xv xU hx xA K;dsimp only;generalize f 0=v0,f 1=v1,f 2=v2,f 3=v3,f 4=v4,f 5=v5,f 6=v6,f 7=v7,f 8=v8,f 9=v9,f 10=v10,f 11=v11,f 12=v12,f 13=v13,f 14=v14,f 15=v15,f 16=v16,f 17=v17,f 18=v18;generalize f 19=v19 at *;generalize f 20=v20,f 21=v21,f 22=v22,f 23=v23,f 25=v25,f 26=v26;have un:Hid (MS O B (W0.setCell (U O 1) v19) v19 vd va { g with l:=(dL g.l k o qty) } t kd n0 dy l0):=ms_list (Z kU) (Z cQ) (fun h=>absurd h (Z oX));have uT:Hid (KO O ob w (W0.setCell (U O 1) v19)):=et (Z xK) 1 [v19];subst eY;go_end0;refine Z jF _ v19 vd (et (Z uT) 2 (yw t.id t.side t.ticks (t.left-qty) t.life t.tag)) ?_;rw[Z ua,(Z ue).1,(Z ue).2.1,(Z ue).2.2];exact eS (Z un) 2 (yw t.id t.side t.ticks (t.left-qty) t.life t.tag) (by simp) rfl rfl (fun h=>absurd h (Z oX))
 ·rintro x hb V i op ⟨f,rfl,hR⟩ xm hx K xJ I;have xu:=Q hR
  match i,K with
  | 0,K|1,K|2,K|6,K|10,K =>
   obtain rfl:=yb K;clear I hR xm;rw[if_pos (by rfl)];unfold Oper.wp;go_simp;exact⟨upd f _ (xj O 0),by simp[upd],eo (Z xu) _ _ (yi rfl) (by decide)⟩
  | 3,K =>
   obtain rfl:=yb K;have g2:=hR.c 2 (ye I 2 rfl) _ rfl;clear I hR xm;rw[if_pos (by rfl)];unfold Oper.wp;go_simp;exact⟨upd f 3 (xj O 0),by simp[upd,g2],eo (Z xu) 3 _ (yi rfl) (by decide)⟩
  | 4,K =>
   obtain rfl:=yb K;have g3:=hR.c 3 (ye I 3 rfl) _ rfl;clear I hR xm;rw[if_pos (by rfl)];unfold Oper.wp;go_simp;exact⟨upd f 4 (xj O 1),by simp[upd,g3],eo (Z xu) 4 _ (yi rfl) (by decide)⟩
  | 5,K =>
   obtain rfl:=yb K;have g4:=hR.c 4 (ye I 4 rfl) _ rfl;have au:x[24]? = some false:=dV xm 28 5 24 (by kernel_rfl) hx (by simp) xJ;have pP:=Q (zv (Z xT) (hR.bel au));have z1:=Y (Z pP).box 1 rfl;clear I hR xm;rw[if_pos (by rfl)];unfold Oper.wp;go_simp;exact⟨upd f 5 (.slice (some (U gb 0)) g.l.length cap),by simp[upd,g4],eo (Z xu) 5 _ (yi rfl) (by decide)⟩
  | 7,K =>
   obtain rfl:=yb K;have g6:=hR.c 6 (ye I 6 rfl) _ rfl;clear I hR xm;rw[if_pos (by rfl)];unfold Oper.wp;go_simp;exact⟨upd f 7 (xj O 0),by simp[upd,g6],eo (Z xu) 7 _ (yi rfl) (by decide)⟩
  | 8,K =>
   obtain rfl:=yb K;have g7:=hR.c 7 (ye I 7 rfl) _ rfl;clear I hR xm;rw[if_pos (by rfl)];unfold Oper.wp;go_simp;exact⟨upd f 8 (xj O 2),by simp[upd,g7],eo (Z xu) 8 _ (yi rfl) (by decide)⟩
  | 9,K =>
   obtain rfl:=yb K;have g8:=hR.c 8 (ye I 8 rfl) _ rfl;have au:x[24]? = some false:=dV xm 28 9 24 (by kernel_rfl) hx (by simp) xJ;have pP:=Q (zv (Z xT) (hR.bel au));have z2:=Y (Z pP).box 2 rfl;have z3:=Y (Z pP).box 3 rfl;have z4:=Y (Z pP).box 4 rfl;have z5:=Y (Z pP).box 5 rfl;have z6:=Y (Z pP).box 6 rfl;have z7:=Y (Z pP).box 7 rfl;clear I hR xm;rw[if_pos (by rfl)];unfold Oper.wp;go_simp;exact⟨upd f 9 (.agg (yw t.id t.side t.ticks t.left t.life t.tag).toArray),by simp[upd,g8],eo (Z xu) 9 _ (yi rfl) (by decide)⟩
  | 11,K =>
   obtain rfl:=yb K;have oi:=hR.c 10 (ye I 10 rfl) _ rfl;clear I hR xm;rw[if_pos (by rfl)];unfold Oper.wp;go_simp;exact⟨upd f 11 (xj O 0),by simp[upd,oi],eo (Z xu) 11 _ (yi rfl) (by decide)⟩
  | 12,K =>
   obtain rfl:=yb K;have jU:=hR.c 11 (ye I 11 rfl) _ rfl;clear I hR xm;rw[if_pos (by rfl)];unfold Oper.wp;go_simp;exact⟨upd f 12 (xj O 1),by simp[upd,jU],eo (Z xu) 12 _ (yi rfl) (by decide)⟩
  | 13,K =>
   obtain rfl:=yb K;have qh:=hR.c 12 (ye I 12 rfl) _ rfl;have au:x[24]? = some false:=dV xm 28 13 24 (by kernel_rfl) hx (by simp) xJ;have pP:=Q (zv (Z xT) (hR.bel au));have z1:=Y (Z pP).box 1 rfl;clear I hR xm;rw[if_pos (by rfl)];unfold Oper.wp;go_simp;exact⟨upd f 13 (.slice (some (U gb 0)) g.l.length cap),by simp[upd,qh],eo (Z xu) 13 _ (yi rfl) (by decide)⟩
  | 14,K =>
   obtain rfl:=yb K;clear I hR xm;rw[if_pos (by rfl)];unfold Oper.wp;go_simp;exact⟨upd f 14 (xj w.heap.size 10),by simp[upd],eo (Z xu) 14 _ (yi rfl) (by decide)⟩
  | 15,K =>
   obtain rfl:=yb K;have bp:=hR.c 14 (ye I 14 rfl) _ rfl;have au:x[24]? = some false:=dV xm 28 15 24 (by kernel_rfl) hx (by simp) xJ;have jv:=Y (zf (Z xF) (hR.bel au) hSX) 10 rfl;clear I hR xm;rw[if_pos (by rfl)];unfold Oper.wp;go_simp;exact⟨upd f 15 (H xh),by simp[upd,bp],eo (Z xu) 15 _ (yi rfl) (by decide)⟩
  | 16,K =>
   obtain rfl:=yb K;have oZ:=hR.c 13 (ye I 13 rfl) _ rfl;have g15:=hR.c 15 (ye I 15 rfl) _ rfl;have au:x[24]? = some false:=dV xm 28 16 24 (by kernel_rfl) hx (by simp) xJ;have oF:=Q (zq (Z uU) (hR.bel au) ya);clear I hR xm;rw[if_pos (by rfl)];unfold Oper.wp;go_simp;refine(gU _ g.l xh V (Z oF)).mono ?_;rw[Z kb];rintro e w4 ⟨rfl,xz⟩;exact⟨upd f 16 (H k),by simp[upd,oZ,g15],eo (r3_grow (Z xu) au xz) 16 _ (yi rfl) (by decide)⟩
  | 17,K =>
   obtain rfl:=yb K;have au:x[24]? = some false:=dV xm 28 17 24 (by kernel_rfl) hx (by simp) xJ;have g5:=hR.c 5 (ye I 5 rfl) _ rfl;have g9:=hR.c 9 (ye I 9 rfl) _ rfl;have g16:=hR.c 16 (ye I 16 rfl) _ rfl;have k18:x[18]? = some false:=dV xm 28 17 18 (by kernel_rfl) hx (by simp) xJ;have k19:x[19]? = some false:=dV xm 28 17 19 (by kernel_rfl) hx (by simp) xJ;have kg:=hR.bel au;have oF:=Q (zq (Z uU) kg ya);have HSV:=Q kg.size;obtain⟨a0,a1,a2,a3⟩:=Z HTL;have HHT:=Q (l04Hit_any _ g.l t o k V (Z oF) (yN oo (by decide)) (Z HIO) a0 a1 a2 a3);rw[Z HQ] at HHT;clear I hR xm kg a0 a1 a2 a3;rw[if_pos (by rfl)];unfold Oper.wp;go_simp;refine(Z HHT).mono ?_;rintro e w4 ⟨v9,rfl,bD,xz⟩;exact⟨upd f 17 (.tuple #[v9,.agg (yw t.id t.side t.ticks (t.left-qty) t.life t.tag).toArray,.agg (Ev.vs (trE t.id o.id qty o.ticks)).toArray]),by simp[upd,g5,g9,g16,Od.vs],r3_17 (Z xu) au k18 k19 (fun v u hu=>by cases hu) (ex bD (Z HSV)) xz⟩
  | 18,K =>
   obtain rfl:=yb K;clear I hR xm;rw[if_pos (by rfl)];unfold Oper.wp;go_simp;exact⟨upd f 18 (f 17),by simp[upd],r3_18 (Z xu) (fun v u hu=>by cases hu)⟩
  | 19,K =>
   obtain rfl:=yb K;have au:x[24]? = some false:=dV xm 28 19 24 (by kernel_rfl) hx (by simp) xJ;have aX:x[17]? = some true:=yf xm 18 rfl (ye I 18 rfl) 17 rfl;obtain⟨v9,e9,-⟩:=hR.m17 aX;have g18:f 18 = .tuple #[v9,.agg (yw t.id t.side t.ticks (t.left-qty) t.life t.tag).toArray,.agg (Ev.vs (trE t.id o.id qty o.ticks)).toArray]:=(hR.m18 (ye I 18 rfl)).trans e9;clear I hR xm;rw[if_pos (by rfl)];unfold Oper.wp;go_simp;exact⟨upd f 19 (v9),by simp[upd,g18,e9],r3_19 (Z xu) au (fun v u hu=>by cases hu) e9⟩
  | 20,K =>
   obtain rfl:=yb K;have aX:x[17]? = some true:=yf xm 18 rfl (ye I 18 rfl) 17 rfl;obtain⟨v9,e9,-⟩:=hR.m17 aX;have g18:f 18 = .tuple #[v9,.agg (yw t.id t.side t.ticks (t.left-qty) t.life t.tag).toArray,.agg (Ev.vs (trE t.id o.id qty o.ticks)).toArray]:=(hR.m18 (ye I 18 rfl)).trans e9;clear I hR xm;rw[if_pos (by rfl)];unfold Oper.wp;go_simp;exact⟨upd f 20 (.agg (yw t.id t.side t.ticks (t.left-qty) t.life t.tag).toArray),by simp[upd,g18,e9],eo (Z xu) 20 _ (yi rfl) (by decide)⟩
  | 21,K =>
   obtain rfl:=yb K;have aX:x[17]? = some true:=yf xm 18 rfl (ye I 18 rfl) 17 rfl;obtain⟨v9,e9,-⟩:=hR.m17 aX;have g18:f 18 = .tuple #[v9,.agg (yw t.id t.side t.ticks (t.left-qty) t.life t.tag).toArray,.agg (Ev.vs (trE t.id o.id qty o.ticks)).toArray]:=(hR.m18 (ye I 18 rfl)).trans e9;clear I hR xm;rw[if_pos (by rfl)];unfold Oper.wp;go_simp;exact⟨upd f 21 (.agg (Ev.vs (trE t.id o.id qty o.ticks)).toArray),by simp[upd,g18,e9],eo (Z xu) 21 _ (yi rfl) (by decide)⟩
  | 22,K =>
   obtain rfl:=yb K;have g0:=hR.c 0 (ye I 0 rfl) _ rfl;clear I hR xm;rw[if_pos (by rfl)];unfold Oper.wp;go_simp;exact⟨upd f 22 (xj O 0),by simp[upd,g0],eo (Z xu) 22 _ (yi rfl) (by decide)⟩
  | 23,K =>
   obtain rfl:=yb K;have g22:=hR.c 22 (ye I 22 rfl) _ rfl;clear I hR xm;rw[if_pos (by rfl)];unfold Oper.wp;go_simp;exact⟨upd f 23 (xj O 1),by simp[upd,g22],eo (Z xu) 23 _ (yi rfl) (by decide)⟩
  | 24,K =>
   obtain rfl:=yb K;have g23:=hR.c 23 (ye I 23 rfl) _ rfl;have k19:x[19]? = some true:=I ⟨19,.data⟩ (by simp) rfl;have aX:x[17]? = some true:=xm 18 _ rfl (yf xm 19 rfl k19 18 rfl) ⟨17,.data⟩ (by simp) rfl;have k27:x[27]? = some false:=dV xm 28 24 27 (by kernel_rfl) hx (by simp) xJ;have qp:=Q (zv (Z xT) (hR.bel xJ));have y1:=Y (Z qp).box 1 rfl;have q1:=zc (Z qp).box 1 (by show 1<13;decide);obtain⟨ga,gc,g19⟩:=gA (zP (r3_row hR xJ aX k19) (Z HLN));generalize (dL g.l k o qty).length=gn at g19;clear I hR xm;rw[if_pos (by rfl)];unfold Oper.wp;go_simp;refine⟨f,by simp[g23,g19],?_⟩;have:=r3_24 (Z xu) xJ k27 aX k19 (fun v u hu=>by cases hu);rw[g19] at this;exact this
  | 25,K =>
   obtain rfl:=yb K;have g1:=hR.c 1 (ye I 1 rfl) _ rfl;clear I hR xm;rw[if_pos (by rfl)];unfold Oper.wp;go_simp;exact⟨upd f 25 (xj O 0),by simp[upd,g1],eo (Z xu) 25 _ (yi rfl) (by decide)⟩
  | 26,K =>
   obtain rfl:=yb K;have g25:=hR.c 25 (ye I 25 rfl) _ rfl;clear I hR xm;rw[if_pos (by rfl)];unfold Oper.wp;go_simp;exact⟨upd f 26 (xj O 2),by simp[upd,g25],eo (Z xu) 26 _ (yi rfl) (by decide)⟩
  | 27,K =>
   obtain rfl:=yb K;have g26:=hR.c 26 (ye I 26 rfl) _ rfl;have g20:=hR.c 20 (ye I 20 rfl) _ rfl;have au:x[24]? = some true:=I ⟨24,.chain⟩ (by simp) rfl;obtain⟨W0,⟨bD,jk⟩,eV,-⟩:=hR.z au;have eV:=eV xJ
   have qp:Hid (MS O B V (f 19) vd va { g with l:=(dL g.l k o qty) } t kd n0 dy l0):=by
    show MS O B V (f 19) vd va { g with l:=(dL g.l k o qty) } t kd n0 dy l0;rw[eV];exact ms_list (zv (Z xT) jk) (ex bD (Z xT).base) (fun h=>absurd h (Z oX))
   have c2:=Y (Z qp).box 2 rfl;have q2:=zc (Z qp).box 2 (by show 2<13;decide);have c3:=Y (Z qp).box 3 rfl;have q3:=zc (Z qp).box 3 (by show 3<13;decide);have c4:=Y (Z qp).box 4 rfl;have q4:=zc (Z qp).box 4 (by show 4<13;decide);have c5:=Y (Z qp).box 5 rfl;have q5:=zc (Z qp).box 5 (by show 5<13;decide);have c6:=Y (Z qp).box 6 rfl;have q6:=zc (Z qp).box 6 (by show 6<13;decide);have c7:=Y (Z qp).box 7 rfl;have q7:=zc (Z qp).box 7 (by show 7<13;decide);clear I hR xm eV bD jk;rw[if_pos (by rfl)];unfold Oper.wp;go_simp;exact⟨f,by simp[g26,g20],r3_27 (Z xu) xJ au (fun v u hu=>by cases hu)⟩
  | i+28,K=>simp at K
theorem rd_tail {W:World}{db qT oL:Nat}{o:Od}{dr:List Od}(h:RdR Od.vs 6 W (.slice (some (U db qT)) (o::dr).length oL) (o::dr))(hcp:(o::dr).length<=oL):RdR Od.vs 6 W (.slice (some (U db (qT+6))) dr.length (oL-1)) dr/\(oL-1=0->RdR Od.vs 6 W (.slice (some (U db qT)) dr.length 0) dr):=by
 obtain⟨a,cap,e,hl,hc⟩:=h;simp only[Value.slice.injEq,true_and] at e;obtain⟨rfl,rfl⟩:=e;simp only[List.length_cons] at hl hcp;refine⟨⟨_,_,rfl,by omega,fun xy=>?_⟩,fun h0=>⟨_,_,rfl,by omega,fun xy=>?_⟩⟩
 ·obtain⟨b,off,e2,A,xm⟩:=hc (by simp);simp only[Option.some.injEq,Addr.mk.injEq,and_true] at e2;obtain⟨rfl,rfl⟩:=e2;refine⟨_,_,rfl,A,fun j c hj i u hi=>?_⟩;have:=xm (j+1) c (by simpa using hj) i u hi;rw[show qT+(j+1)*6+i=qT+6+j*6+i by omega] at this;exact this
 ·exfalso;cases dr with
  | nil=>exact xy rfl
  | cons a b=>simp only[List.length_cons] at hcp;omega
theorem ms_days {O B:Nat}{W:World}{vl vd vw va:Value}{g:Gr}{t:Od}{kd n0:Int}{dy dy' l0:List Od}(h:MS O B W vl vd va g t kd n0 dy l0)(hd:RdR Od.vs 6 W vw dy')(hn:dy' ≠ []->∀b off n c,vw = .slice (some (U b off)) n c->b≠O/\n<=c)(ht:dy' ≠ []->∀b off n c,vw = .slice (some (U b off)) n c->DyT W b)(hq:g.bg≠0):MS O B (W.setCell (U O 10) vw) vl vw va g t kd n0 dy' l0:=
 ⟨eh h.box (by show 10<13;decide),eP h.nl [vw] 10 W h.row,gM (us:=[vw]) (o:=10) hd (fun xy b off n c e=>(hn xy b off n c e).1),gM (us:=[vw]) (o:=10) h.ahd (fun xy b' off n c e=>by have:=h.na xy b' off n c e;have:=h.hO;omega),h.sla,gZ [vw] 10 W h.typ,h.hO,fun h=>absurd h hq,hn,h.na,fun hd b off n c e=>dyT_blk (ht hd b off n c e) (ep O b (hn hd b off n c e).1 [vw] 10 W)⟩
theorem take_9 {O B:Nat}{vl vd va:Value}{g:Gr}{t:Od}{kd n0:Int}{dy l0:List Od}(ck cs ct cl cq ci:Int)(cp:Nat)(cg:ByteArray)(id xh qty xi xg:Int)(w:World)(h:MS O B w vl vd va g t kd n0 dy l0)(hi:GI g)(hm:MR g t kd dy)(he:okE ⟨9,⟨ck,cs,ct,cl,cq,ci,cp,cg⟩,id,xh,qty,xi,xg⟩=true)(hr:zx g ⟨9,⟨ck,cs,ct,cl,cq,ci,cp,cg⟩,id,xh,qty,xi,xg⟩=0):Calls Tryz.prog 85 #[xj O 0,.agg (yv 9 ck cs ct cl cq ci cp cg id xh qty xi xg).toArray] w fun x w'=>TakK O B vl.ownBlock va n0 l0 g t kd dy ⟨9,⟨ck,cs,ct,cl,cq,ci,cp,cg⟩,id,xh,qty,xi,xg⟩ w x w':=by
 generalize hob:vl.ownBlock=ob;have HOB:=Q hob;clear hob;have hsf:=sfl;have hO:=h.lt;have jA:=h.base;have jF:Hid (∀w' qd vw,KO O ob w w'->MS O B w' qd vw va (dK g ⟨9,⟨ck,cs,ct,cl,cq,ci,cp,cg⟩,id,xh,qty,xi,xg⟩) (tkM g t ⟨9,⟨ck,cs,ct,cl,cq,ci,cp,cg⟩,id,xh,qty,xi,xg⟩) (kdM kd ⟨9,⟨ck,cs,ct,cl,cq,ci,cp,cg⟩,id,xh,qty,xi,xg⟩) n0 (dyM g dy ⟨9,⟨ck,cs,ct,cl,cq,ci,cp,cg⟩,id,xh,qty,xi,xg⟩) l0->TakK O B ob va n0 l0 g t kd dy ⟨9,⟨ck,cs,ct,cl,cq,ci,cp,cg⟩,id,xh,qty,xi,xg⟩ w (.returned (.tuple #[])) w'):=fun w' qd vw D E=>⟨rfl,D,qd,vw,E⟩;obtain⟨h8,o,hf,hd,uf,hqo⟩:=rule9 (e:=⟨9,⟨ck,cs,ct,cl,cq,ci,cp,cg⟩,id,xh,qty,xi,xg⟩) rfl hr;simp only at uf hqo;have qZ:=hi.good (.inl (by omega));obtain⟨k,vC⟩:=find_at hf;have uJ:plc g.l id=k:=by rw[uf];exact eX qZ.rise vC
 have hpo:plc g.l o.id=k:=eX qZ.rise vC;have ua:Hid (dK g ⟨9,⟨ck,cs,ct,cl,cq,ci,cp,cg⟩,id,xh,qty,xi,xg⟩ = { g with l:=g.l.take k++g.l.drop (k+1) }):=by show _ = _;rw[step9 rfl,hd];simp only[begG,fi hpo vC];rw[if_neg (by omega),dL,if_pos rfl]
 obtain⟨dr,hdy⟩:∃dr,dy=o::dr:=by
  rw[hm.dy,if_pos h8];rw[<- List.head?_filter] at hf;cases hc:g.l.filter isDy with
  | nil=>rw[hc] at hf;simp at hf
  | cons a b=>rw[hc] at hf;simp at hf;subst hf;exact⟨b,rfl⟩
 subst hdy;have ue:Hid (tkM g t ⟨9,⟨ck,cs,ct,cl,cq,ci,cp,cg⟩,id,xh,qty,xi,xg⟩=t/\kdM kd ⟨9,⟨ck,cs,ct,cl,cq,ci,cp,cg⟩,id,xh,qty,xi,xg⟩=kd/\dyM g (o::dr) ⟨9,⟨ck,cs,ct,cl,cq,ci,cp,cg⟩,id,xh,qty,xi,xg⟩=dr):=⟨rfl,rfl,rfl⟩;have xy:g.l ≠ []:=by intro h;rw[h] at vC;simp at vC
 have pg:=(yG.1 vC).1;obtain⟨gb,cap,rfl,xC,hBg,hgw⟩:=fM h.row xy;obtain⟨da,oL,rfl,cx,hdc⟩:=h.days;obtain⟨db,qT,rfl,hdb,hdcl⟩:=hdc (by simp);have oo:=hi.len;have kb:=Q uJ;have hbn:(g.bg != 0)=true:=by simp[h8]
 have oX:Hid (g.bg≠0):=by show _ ≠ _;omega
 have hdl1:(o::dr).length=dr.length+1:=rfl;clear h8 uJ hpo vC hqo uf hf hd qZ hdc hdcl;generalize TakK O B ob va n0 l0 g t kd (o::dr) ⟨9,⟨ck,cs,ct,cl,cq,ci,cp,cg⟩,id,xh,qty,xi,xg⟩ w=C at jF |-;obtain⟨xA,HX⟩:=lY w (yv 9 ck cs ct cl cq ci cp cg id xh qty xi xg) 89;have HM:=Q (zv h xA);have HB:Hid (KO O ob w (w.alloc (J (yv 9 ck cs ct cl cq ci cp cg id xh qty xi xg).toArray 89))):=ko_of xA;clear h xA hi hm he hr;go_enter Tryz.func85,Tryz.ntmps85;refine lX fun ho HK=>?_;go_wp2_with fail;refine Z HK _ _ ?_;clear HK;generalize (w.alloc (J (yv 9 ck cs ct cl cq ci cp cg id xh qty xi xg).toArray 89))=W1 at HX HM HB |-;have c9:=Y (Z HM).box 9 rfl;have q9:=zc (Z HM).box 9 (by show 9<13;decide);have xq:Hid (KO O ob w (World.setCells W1 O 9 [.bool true])):=et (Z HB) 9 _;have xT:Hid (MS O B (World.setCells W1 O 9 [.bool true]) (.slice (some (U gb 0)) g.l.length cap) (.slice (some (U db qT)) (o::dr).length oL) va g t kd n0 (o::dr) l0):=eS (Z HM) 9 [.bool true] (by simp) (by simp[msV,hbn]) rfl (fun h=>absurd h (Z oX));have xF:Hid (Bx (World.setCells W1 O 9 [.bool true]) w.heap.size (yv 9 ck cs ct cl cq ci cp cg id xh qty xi xg)):=zQ (Z HX) (ep O w.heap.size (by omega) _ 9 W1);clear HX HM HB hbn;refine lX fun ho HK=>?_;go_wp2_with fail;refine Z HK _ _ ?_;clear HK;change Code.wp _ _ _ _ (World.setCells W1 O 9 [.bool true]);generalize World.setCells W1 O 9 [.bool true]=X0 at xq xT xF |-;have HON:=Q ((Z xT).ndc (by simp) db qT _ _ rfl);have HOT:=Q ((Z xT).dyt (by simp) db qT _ _ rfl);have HDT:=Q (rd_tail (Z xT).days (Z HON).2);have e0:=Y (Z xF) 0 rfl;have c10:=Y (Z xT).box 10 rfl;have q10:=zc (Z xT).box 10 (by show 10<13;decide);rw[hdl1] at c10;clear c9 q9;go_wp2_with fail;have HV:Hid (RdR Od.vs 6 X0 (.slice (some (U db qT)) dr.length 0) dr/\(dr ≠ []->∀b off n c,((.slice (some (U db qT)) dr.length 0):Value) = .slice (some (U b off)) n c->b≠O/\n<=c)/\(dr ≠ []->∀b off n c,((.slice (some (U db qT)) dr.length 0):Value) = .slice (some (U b off)) n c->DyT X0 b)):=⟨(Z HDT).2 (by omega),fun _ b off n c e=>by simp only[Value.slice.injEq,Option.some.injEq,Addr.mk.injEq,and_true] at e;obtain⟨⟨rfl,rfl⟩,rfl,rfl⟩:=e;have:=Z HON;rw[hdl1] at this;exact⟨this.1,by omega⟩,fun _ b off n c e=>by simp only[Value.slice.injEq,Option.some.injEq,Addr.mk.injEq,and_true] at e;obtain⟨⟨rfl,rfl⟩,rfl,rfl⟩:=e;exact Z HOT⟩;generalize ((.slice (some (U db qT)) dr.length 0):Value)=vw at HV |-;generalize Value.slice (some (U db qT)) (dr.length+1) 1=v166;rotate_left;have HV:Hid (RdR Od.vs 6 X0 (.slice (some (U db (qT+6))) dr.length (oL-1)) dr/\(dr ≠ []->∀b off n c,((.slice (some (U db (qT+6))) dr.length (oL-1)):Value) = .slice (some (U b off)) n c->b≠O/\n<=c)/\(dr ≠ []->∀b off n c,((.slice (some (U db (qT+6))) dr.length (oL-1)):Value) = .slice (some (U b off)) n c->DyT X0 b)):=⟨(Z HDT).1,fun _ b off n c e=>by simp only[Value.slice.injEq,Option.some.injEq,Addr.mk.injEq,and_true] at e;obtain⟨⟨rfl,rfl⟩,rfl,rfl⟩:=e;have:=Z HON;rw[hdl1] at this;exact⟨this.1,by omega⟩,fun _ b off n c e=>by simp only[Value.slice.injEq,Option.some.injEq,Addr.mk.injEq,and_true] at e;obtain⟨⟨rfl,rfl⟩,rfl,rfl⟩:=e;exact Z HOT⟩;generalize ((.slice (some (U db (qT+6))) dr.length (oL-1)):Value)=vw at HV |-;generalize hv6:Value.slice (some (U db qT)) (dr.length+1) oL=v166 at |-;clear hv6
 all_goals clear h HDT HON HOT
 all_goals
  have ox:=Q (ms_days (Z xT) (Z HV).1 (Z HV).2.1 (Z HV).2.2 (Z oX));have xZ:Hid (KO O ob w (X0.setCell (U O 10) vw)):=et (Z xq) 10 [vw];have uz:Hid (Bx (X0.setCell (U O 10) vw) w.heap.size (yv 9 ck cs ct cl cq ci cp cg id xh qty xi xg)):=zQ (Z xF) (ep O w.heap.size (by omega) [vw] 10 X0);clear xT xq xF HV;change Code.wp _ _ _ _ (X0.setCell (U O 10) vw);generalize X0.setCell (U O 10) vw=hk at ox xZ uz |-;have xT:=ox;have xq:=xZ;have xF:=uz;clear ox xZ uz c10 q10 e0;have uU:Hid (RdR Od.vs 6 hk (.slice (some (U gb 0)) g.l.length cap) g.l):=zP (Z xT).row (yN oo (by decide));have vV:Hid (yn hk hk.drew):=(Below.refl _ _).drew;have hOX:=(Z xT).lt;have hWX:w.heap.size<hk.heap.size:=yK _ _ (Y (Z xF) 0 rfl);have c1:=Y (Z xT).box 1 rfl;have q1:=zc (Z xT).box 1 (by show 1<13;decide);have e9:=Y (Z xF) 9 rfl;have bK:Hid (∀V,yn hk V->Calls Tryz.prog 123 #[.slice (some (U gb 0)) g.l.length cap,H id] V fun e w'=>e = .returned (H k)/\yn hk w'):=fun V hV=>(gU _ g.l id V (zq (Z uU) hV ya)).mono fun e w' ⟨D,E⟩=>⟨by rw[D,Z kb],hV.trans (E.mono hV.size)⟩
  have HDR:Hid (∀V,yn hk V->Calls Tryz.prog 124 #[.slice (some (U gb 0)) g.l.length cap,H k] V fun e w'=>∃v',e = .returned v'/\ORow w' hk.heap.size v' (g.l.take k++g.l.drop (k+1))/\yn hk w'):=fun V hV=>by
   obtain⟨a9,c9,e9,-,dm⟩:=zq (Z uU) hV ya;obtain⟨b9,o9,uL,jk,hcl9⟩:=dm xy;rw[uL] at e9;simp only[Value.slice.injEq,Option.some.injEq,Addr.mk.injEq,and_true,true_and] at e9;obtain⟨⟨rfl,rfl⟩,rfl⟩:=e9;exact(l04Drop_any gb 0 cap g.l k V hcl9 jk pg xC (yN oo (by decide))).mono fun e w' ⟨v',D,E,h3⟩=>⟨v',D,ex E hV.size,hV.trans (h3.mono hV.size)⟩
  have HNL:Hid ((g.l.take k++g.l.drop (k+1)).length<=1073741824):=by show _ <= _;simp only[yP,List.length_take,List.length_drop];omega
  generalize g.l.take k++g.l.drop (k+1)=NL at HDR ua HNL
  go_region_with (first|(go_at_call 123;refine(Z bK _ (by first|exact hq|exact Z vV)).mono ?_;rintro e w4 ⟨rfl,hq⟩;have y1:=(hq.cell (p:=(U O 1)) hOX).trans c1;have r1:=(World.frozen?_of_block (a:=(U O 1)) (hq.block O hOX)).trans q1;have y9:=(hq.cell (p:=(U w.heap.size 9)) hWX).trans e9)|(go_at_call 124;refine(Z HDR _ hq).mono ?_;rintro e w5 ⟨v12,rfl,K,hq⟩;have y1:=(hq.cell (p:=(U O 1)) hOX).trans c1;have r1:=(World.frozen?_of_block (a:=(U O 1)) (hq.block O hOX)).trans q1;obtain⟨a5,c5,rfl⟩:=gA (zP K (Z HNL))))
  all_goals
   go_end0;refine Z jF _ (.slice a5 NL.length c5) vw (et (ic (Z xq) hq) 1 [_]) ?_;rw[Z ua,(Z ue).1,(Z ue).2.1,(Z ue).2.2];exact ms_list (zv (Z xT) hq) (ex K (Z xT).base) (fun h=>absurd h (Z oX))
theorem drop_getR {l:List Od}{k:Nat}{c:Od}(h:l[k]? = some c):l.drop k=c::l.drop (k+1):=by
 obtain⟨D,rfl⟩:=yG.1 h;exact xc D
theorem oRow_gr {W W':World}{B:Nat}{v:Value}{l:List Od}{G:Option Nat}(h:ORow W B v l)(M:W.grownBy W' G)(hn:∀k,v.ownBlock=some k->some k≠G):ORow W' B v l:=by
 rcases h.2 with⟨e,n⟩|⟨g,cap,xr,rfl,A,hh,r⟩
 ·exact⟨h.1,.inl ⟨e,n⟩⟩
 ·exact⟨h.1,.inr ⟨g,cap,xr,rfl,A,(M.block g (yY.1 hh).1 (hn g rfl)).trans hh,r⟩⟩
theorem rd_grO {W W':World}{l:List Od}{v:Value}{G:Option Nat}(h:RdR Od.vs 6 W v l)(M:W.grownBy W' G)(hn:l ≠ []->∀b' off n c,v = .slice (some (U b' off)) n c->some b'≠G):RdR Od.vs 6 W' v l:=by
 obtain⟨a,cap,rfl,hl,hc⟩:=h;refine⟨a,cap,rfl,hl,fun xy=>?_⟩;obtain⟨b',off,rfl,A,xm⟩:=hc xy;have oO:=M.block b' A (hn xy b' off _ _ rfl);refine⟨b',off,rfl,yJ A M.size,fun j c hj i u hi=>?_⟩;rw[yQ (a:=(U b' (off+j*6+i))) oO];exact xm j c hj i u hi
theorem cells_of_made (w:World)(cs:List Value)(t:TypeId)(j:Nat)(u:Value)(h:cs[j]? = some u):((w.alloc (Obj.cells cs.toArray t)).drew).cell? (((U w.heap.size 0):Addr).add j)=some u:=by
 have:=World.news_of_block (heap_alloc_new w (Obj.cells cs.toArray t)) j u (by simpa using h);exact this
theorem ms_dayrow {O B za:Nat}{zb W:World}{vl vm va v':Value}{g:Gr}{t:Od}{kd n0:Int}{m m' l0:List Od}(h:MS O B zb vl vm va g t kd n0 m l0)(M:zb.grownBy W vm.ownBlock)(hZ:∀k,vm.ownBlock=some k->za<=k)(hOZ:O<za)(hLZ:∀k,vl.ownBlock=some k->k<za)(K:ORow W za v' m')(hq:g.bg≠0)(hl:m'.length<=1073741824):MS O B (W.setCell (U O 10) v') vl v' va g t kd n0 m' l0:=by
 have hOB:=h.hO;have nO:some O≠vm.ownBlock:=fun e=>by have:=hZ O e.symm;omega
 have hd:m' ≠ []->∀b off n c,v' = .slice (some (U b off)) n c->b≠O/\n<=c:=fun xy b off n c e=>by
  obtain⟨g',cap,e',hc,hB,-⟩:=fM K xy;rw[e'] at e;simp only[Value.slice.injEq,Option.some.injEq,Addr.mk.injEq,and_true] at e;obtain⟨⟨rfl,-⟩,rfl,rfl⟩:=e;exact⟨by omega,hc⟩
 obtain⟨xr,hty⟩:=h.typ;refine⟨eh (zQ h.box (M.block O h.lt nO)) (by show 10<13;decide),eP h.nl [v'] 10 W (oRow_gr h.row M (fun k X e=>by have:=hZ k e.symm;have:=hLZ k X;omega)),gM (us:=[v']) (o:=10) (zP K hl) (fun xy b off n c e=>(hd xy b off n c e).1),gM (us:=[v']) (o:=10) (rd_grO h.ahd M (fun xy b' off n c e e2=>by have:=h.na xy b' off n c e;have:=hZ b' e2.symm;omega)) (fun xy b' off n c e=>by have:=h.na xy b' off n c e;omega),h.sla,gZ [v'] 10 W ⟨xr,(M.block O h.lt nO).trans hty⟩,h.hO,fun e=>absurd e hq,hd,h.na,fun xy b off n c e=>dyT_blk (W:=W) ?_ (ep O b (hd xy b off n c e).1 [v'] 10 W)⟩;obtain⟨g',cap,e',-,-,-⟩:=fM K xy;rcases K.2 with⟨D,_⟩|⟨q,cap2,cur2,D,_,hq2,_⟩
 ·rw[D] at e;cases e
 ·rw[D] at e;simp only[Value.slice.injEq,Option.some.injEq,Addr.mk.injEq,and_true] at e;obtain⟨⟨rfl,-⟩,-⟩:=e;exact⟨cur2,hq2⟩
section
variable {C:Nat->Value->Prop} {O:Nat} {hb:World->Value->Prop} {B0 W W':World} {c0:Od} {x:List Bool} {f:Nat->Value}
end
theorem take_8 {O B:Nat}{vl vd va:Value}{g:Gr}{t:Od}{kd n0:Int}{dy l0:List Od}(ck cs ct cl cq ci:Int)(cp:Nat)(cg:ByteArray)(id xh qty xi xg:Int)(w:World)(h:MS O B w vl vd va g t kd n0 dy l0)(hi:GI g)(hm:MR g t kd dy)(he:okE ⟨8,⟨ck,cs,ct,cl,cq,ci,cp,cg⟩,id,xh,qty,xi,xg⟩=true)(hr:zx g ⟨8,⟨ck,cs,ct,cl,cq,ci,cp,cg⟩,id,xh,qty,xi,xg⟩=0):Calls Tryz.prog 85 #[xj O 0,.agg #[H 8,H ck,H cs,H ct,H cl,H cq,H ci,yj cp,yk cg,H id,H xh,H qty,H xi,H xg]] w fun x w'=>TakK O B vl.ownBlock va n0 l0 g t kd dy ⟨8,⟨ck,cs,ct,cl,cq,ci,cp,cg⟩,id,xh,qty,xi,xg⟩ w x w':=by
 generalize hob:vl.ownBlock=ob;have HOB:=Q hob;clear hob;have hsf:=sfl;have hO:=h.lt;have jA:=h.base;have jF:Hid (∀w' qd vw,KO O ob w w'->MS O B w' qd vw va (dK g ⟨8,⟨ck,cs,ct,cl,cq,ci,cp,cg⟩,id,xh,qty,xi,xg⟩) (tkM g t ⟨8,⟨ck,cs,ct,cl,cq,ci,cp,cg⟩,id,xh,qty,xi,xg⟩) (kdM kd ⟨8,⟨ck,cs,ct,cl,cq,ci,cp,cg⟩,id,xh,qty,xi,xg⟩) n0 (dyM g dy ⟨8,⟨ck,cs,ct,cl,cq,ci,cp,cg⟩,id,xh,qty,xi,xg⟩) l0->TakK O B ob va n0 l0 g t kd dy ⟨8,⟨ck,cs,ct,cl,cq,ci,cp,cg⟩,id,xh,qty,xi,xg⟩ w (.returned (.tuple #[])) w'):=fun w' qd vw D E=>⟨rfl,D,qd,vw,E⟩;have h0:=rule8 (e:=⟨8,⟨ck,cs,ct,cl,cq,ci,cp,cg⟩,id,xh,qty,xi,xg⟩) rfl hr;have ua:Hid (dK g ⟨8,⟨ck,cs,ct,cl,cq,ci,cp,cg⟩,id,xh,qty,xi,xg⟩ = { g with bg:=8 }):=by show _ = _;rw[step8 rfl];simp only[begG,if_pos h0]
 have ue:Hid (tkM g t ⟨8,⟨ck,cs,ct,cl,cq,ci,cp,cg⟩,id,xh,qty,xi,xg⟩=t/\kdM kd ⟨8,⟨ck,cs,ct,cl,cq,ci,cp,cg⟩,id,xh,qty,xi,xg⟩=kd/\dyM g dy ⟨8,⟨ck,cs,ct,cl,cq,ci,cp,cg⟩,id,xh,qty,xi,xg⟩=g.l.filter isDy):=⟨rfl,rfl,rfl⟩;have hdy:dy = []:=by rw[hm.dy,if_neg (by omega)]
 have hvd:=(h.eqd h0).2.2;subst hdy;subst hvd;have oo:=hi.len;obtain⟨la,lc,rfl⟩:=gA (zP h.row (yN oo (by decide)));obtain⟨i0,vA,uE,uw,uC⟩:=info_parts Tryz.infoOrder;clear h0;generalize TakK O B ob va n0 l0 g t kd [] ⟨8,⟨ck,cs,ct,cl,cq,ci,cp,cg⟩,id,xh,qty,xi,xg⟩ w=C at jF |-;obtain⟨xA,HX⟩:=lY w [H 8,H ck,H cs,H ct,H cl,H cq,H ci,yj cp,yk cg,H id,H xh,H qty,H xi,H xg] 89;have HM:=Q (zv h xA);have HB:Hid (KO O ob w (w.alloc (Obj.cells #[H 8,H ck,H cs,H ct,H cl,H cq,H ci,yj cp,yk cg,H id,H xh,H qty,H xi,H xg] 89))):=ko_of xA;clear h xA hi hm he hr;go_enter Tryz.func85,Tryz.ntmps85;refine lX fun ho HK=>?_;go_wp2_with fail;refine Z HK _ _ ?_;clear HK;generalize (w.alloc (Obj.cells #[H 8,H ck,H cs,H ct,H cl,H cq,H ci,yj cp,yk cg,H id,H xh,H qty,H xi,H xg] 89))=W1 at HX HM HB |-;have c9:=Y (Z HM).box 9 rfl;have q9:=zc (Z HM).box 9 (by show 9<13;decide);have xq:Hid (KO O ob w (World.setCells W1 O 9 [.bool true])):=et (Z HB) 9 _;have xT:Hid (MS O B (World.setCells W1 O 9 [.bool true]) (.slice la g.l.length lc) (.slice none 0 0) va { g with bg:=8 } t kd n0 [] l0):=eS (Z HM) 9 [.bool true] (by simp) rfl rfl (fun h=>absurd (show(8:Int)=0 from h) (by decide));have e0:(World.setCells W1 O 9 [.bool true]).cell? (U w.heap.size 0)=some (H 8):=Y (zQ (Z HX) (ep O w.heap.size (by omega) _ 9 W1)) 0 rfl;clear HX HM HB;refine lX fun ho HK=>?_;go_wp2_with fail;refine Z HK _ _ ?_;clear HK;change Code.wp _ _ _ _ (World.setCells W1 O 9 [.bool true]);generalize World.setCells W1 O 9 [.bool true]=hk at xq xT e0 |-;have HZ:Hid (∀b,(.slice la g.l.length lc:Value).ownBlock=some b->b<hk.heap.size):=fun b A=>((Z xT).row.lt b A).2;have HOX:Hid (O<hk.heap.size):=(Z xT).lt;have HWX:Hid (w.heap.size<=hk.heap.size):=(Z xq).size;clear c9 q9;go_wp2_with fail;go_loopw [4] (fun iv wr=>∃(k:Nat) (m:List Od) (vm:Value),k<=g.l.length/\iv=H k/\Hid (g.l.filter isDy=m++(g.l.drop k).filter isDy)/\m.length<=k/\Hid (MS O B wr (.slice la g.l.length lc) vm va { g with bg:=8 } t kd n0 m l0)/\Hid (ORow wr hk.heap.size vm m)/\Hid (KO O ob w wr)/\hk.heap.size<=wr.heap.size) (fun iv _=>g.l.length-(intOf iv).toNat)
 case atStart=>exact⟨0,[],_,Nat.zero_le _,rfl,rfl,Nat.le_refl _,xT,World.ownsRow_nil _ _ _ _,xq,Nat.le_refl _⟩
 case round =>
  obtain⟨k,m,vm,X,rfl,uJ,pt,HMk,HOk,HBk,uX⟩:=hrel;clear xT xq e0;have c1:=Y (Z HMk).box 1 rfl
  by_cases xH:k<g.l.length
  ·obtain⟨c,qk⟩:∃c,g.l[k]? = some c:=⟨_,yH xH⟩
   have HP:Hid (g.l.filter isDy=m++(c::g.l.drop (k+1)).filter isDy):=by
    have:=Z uJ;rw[drop_getR qk] at this;exact this
   obtain⟨b,rfl,A,xm⟩:∃b,la=some (U b 0)/\b<wr.heap.size/\wr.rangeAt b (k*6) c.vs:=by
    obtain⟨a9,c9,e9,-,dm⟩:=zP (Z HMk).row (yN oo (by decide));obtain⟨b9,o9,uL,jk,hcl9⟩:=dm (by intro h;rw[h] at qk;simp at qk);obtain⟨g9,p9,uG,-,-,-⟩:=fM (Z HMk).row (by intro h;rw[h] at qk;simp at qk);simp only[Value.slice.injEq,true_and] at e9 uG;rw[e9.1,uL] at uG;simp only[Option.some.injEq,Addr.mk.injEq,and_true] at uG;obtain⟨⟨rfl,rfl⟩,-⟩:=uG;exact⟨b9,e9.1.trans uL,jk,fun i u hi=>by have:=hcl9 k c qk i u hi;rw[Nat.zero_add] at this;exact this⟩
   obtain⟨g0,g1,g2,g3,g4,g5⟩:=zM xm;have uq:(k:Int)<g.l.length:=by omega
   clear qk uJ
   by_cases uf:c.life=1
   ·rw[uf] at g4
    have HP1:Hid (g.l.filter isDy=(m ++ [c])++(g.l.drop (k+1)).filter isDy):=by
     have:=Z HP;rw[List.filter_cons_of_pos (by simp[isDy,uf])] at this;show _ = _;rw[this];simp
    have HID:=Q uf;clear HP xm uf;go_wp2_with fail;have hj10:=Y (Z HMk).box 10 rfl;have hf10:=zc (Z HMk).box 10 (by show 10<13;decide);have hOk:=(Z HMk).lt;have hZk:∀k,vm.ownBlock=some k->hk.heap.size<=k:=fun k X=>((Z HOk).lt k X).1;have nO:some O≠vm.ownBlock:=fun e=>by have:=hZk O e.symm;have:=Z HOX;omega
    have HZK:=Q hZk;have HVS:Hid (c.vs = [H c.id,H c.side,H c.ticks,H c.left,H 1,yk c.tag]):=by have:=HID;show _ = _;unfold Od.vs;rw[Z HID]
    clear hZk
    go_region_law ((refine step_append_lies _ (by rfl) _ _ _ (by rfl) hk.heap.size 98 i0 _ 6 56 Tryz.underlying39 vA uE uw uC rfl (by decide) _ m.length (m.flatMap Od.vs) (by rfl) (zK (Z HOk) ((Below.refl wr.heap.size wr).alloc ya _).drew) (U wr.heap.size 0) 1 1 c.vs (by rfl) rfl (by rw[Z HVS];exact cells_of_made _ _ _) (one_od c) (by decide) (by unfold maxLen;omega) (by omega) (by show hk.heap.size<=(wr.alloc _).heap.size;rw[zh];omega) (wr.heap.size+1) (by simp) ?_;intro gq cq w5 qC kN hat5 hlt5;have y10:=(kN.cell_far (U O 10) (by show O<(wr.alloc _).heap.size;rw[zh];omega) nO).trans ((((Below.refl wr.heap.size wr).alloc ya _).drew.cell (p:=(U O 10)) (by show O < _;omega)).trans hj10);have jv:=(kN.frozen_far (U O 10) (by show O<(wr.alloc _).heap.size;rw[zh];omega) nO).trans ((World.frozen?_of_block (a:=(U O 10)) (((Below.refl wr.heap.size wr).alloc ya _).drew.block O (by omega))).trans hf10)))
    all_goals
     have kf:yn wr ((wr.alloc (Obj.cells #[H c.id,H c.side,H c.ticks,H c.left,H 1,yk c.tag] 98)).drew):=((Below.refl wr.heap.size wr).alloc ya _).drew;have HMa:=zv (Z HMk) kf;have hrw:ORow w5 hk.heap.size (.slice (some (U gq 0)) (m.length+1) cq) (m ++ [c]):=by show World.ownsRow _ _ _ _ _ _ _;rw[yP,List.flatMap_append];simpa using qC
     have un:Hid (MS O B (w5.setCell (U O 10) (.slice (some (U gq 0)) (m.length+1) cq)) (.slice (some (U b 0)) g.l.length lc) (.slice (some (U gq 0)) (m.length+1) cq) va { g with bg:=8 } t kd n0 (m ++ [c]) l0):=ms_dayrow HMa kN (Z HZK) (Z HOX) (Z HZ) hrw (fun h=>absurd (show(8:Int)=0 from h) (by decide)) (by simp;omega);have nO2:some O≠(Value.slice (some (U gq 0)) (m.length+1) cq).ownBlock:=fun e=>by have:=(hrw.lt O e.symm).1;have:=Z HOX;omega
     have HO5:Hid (ORow (w5.setCell (U O 10) (.slice (some (U gq 0)) (m.length+1) cq)) hk.heap.size (.slice (some (U gq 0)) (m.length+1) cq) (m ++ [c])):=eP nO2 [_] 10 w5 hrw;have uT:Hid (KO O ob w (w5.setCell (U O 10) (.slice (some (U gq 0)) (m.length+1) cq))):=et (ko_far (ic (Z HBk) kf) kN (fun k X=>by have:=Z HZK k X;have:=Z HWX;omega)) 10 [_];have HS5:Hid (hk.heap.size<=(w5.setCell (U O 10) (.slice (some (U gq 0)) (m.length+1) cq)).heap.size):=by have:=(eF w5 (U O 10) (.slice (some (U gq 0)) (m.length+1) cq)).size;have:=kN.size;have:=kf.size;show _ <= _;omega
     clear qC kN hat5 hlt5 y10 jv kf HMa hrw nO2;go_wp2_with fail
     try dsimp only[H,xj,U,F,yj,yk,yv,yw,yx,yp,yq,J]
     go_roundw
     case rel=>exact⟨k+1,m ++ [c],.slice (some (U gq 0)) (m.length+1) cq,by omega,by go_num,HP1,by simp;omega,un,HO5,uT,Z HS5⟩
     case measure=>simp[intOf];omega
   ·have HP1:Hid (g.l.filter isDy=m++(g.l.drop (k+1)).filter isDy):=by
     have:=Z HP;rw[List.filter_cons_of_neg (by simp[isDy,uf])] at this;exact this
    clear HP;go_wp2_with fail
    try dsimp only[H,xj,U,F,yj,yk,yv,yw,yx,yp,yq,J]
    go_roundw
    case rel=>exact⟨k+1,m,vm,by omega,by go_num,HP1,by omega,HMk,HOk,HBk,uX⟩
    case measure=>simp[intOf];omega
  ·have HE:Hid (g.l.filter isDy=m):=by
    have:=Z uJ;rw[xa (by omega)] at this;show _ = _;rw[this];simp
   have hge:¬ ((k:Int)<g.l.length):=by omega
   clear uJ xH;go_wp2_with fail;go_end0;refine Z jF _ (.slice la g.l.length lc) vm (Z HBk) ?_;rw[Z ua,(Z ue).1,(Z ue).2.1,(Z ue).2.2,Z HE];exact Z HMk
end Go.Proofs.YtbghmldggahjiaaGreatDoor
