/-.-/
import Derived.Test.YthhkapcbocgcoaaGreatDoorKj29
import Derived.Test.YthhkapcbocgcoaaGreatDoorKj31
set_option linter.unusedVariables false
set_option maxHeartbeats 6400000
set_option maxRecDepth 100000
namespace Go.Proofs.YthhkapcbocgcoaaGreatDoor
open Go.RowKit
theorem ms_list {cl B:Nat}{W:World}{vl vO vd va:Value}{g:Gr}{t:Od}{kd n0:Int}{dy l0 l':List Od}(h:MS cl B W vl vd va g t kd n0 dy l0)(Q:ORow W B vO l')(hq:g.bg=0->n0=g.nx/\l0=l'/\vd = .slice none 0 0):MS cl B (W.setCell (J cl 1) vO) vO vd va { g with l:=l' } t kd n0 dy l0:=
 ⟨fi h.box (by show 1<13;decide),ek Q (fC Q h.typ (by decide)) 1 vO,gO (us:=[vO]) (o:=1) h.days h.nd,gO (us:=[vO]) (o:=1) h.ahd (fun xr b' off n c e=>by have:=h.na xr b' off n c e;have:=h.hO;omega),h.sla,iH [vO] 1 W h.typ,h.hO,hq,h.ndc,h.na,fun hd b off n c e=>dyT_blk (h.dyt hd b off n c e) (et cl b (h.nd hd b off n c e) [vO] 1 W)⟩
theorem take_6 {cl B:Nat}{vl vd va:Value}{g:Gr}{t:Od}{kd n0:Int}{dy l0:List Od}(ck F ct O cq ci:Int)(cp:Nat)(cg:ByteArray)(id xj qty xk xh:Int)(w:World)(h:MS cl B w vl vd va g t kd n0 dy l0)(hi:GI g)(hm:MR g t kd dy)(he:okE ⟨6,⟨ck,F,ct,O,cq,ci,cp,cg⟩,id,xj,qty,xk,xh⟩=true)(hr:zE g ⟨6,⟨ck,F,ct,O,cq,ci,cp,cg⟩,id,xj,qty,xk,xh⟩=0):Calls Tryz.prog 60 #[I cl 0,.agg (yv 6 ck F ct O cq ci cp cg id xj qty xk xh).toArray] w fun x w'=>TakK cl B vl.ownBlock va n0 l0 g t kd dy ⟨6,⟨ck,F,ct,O,cq,ci,cp,cg⟩,id,xj,qty,xk,xh⟩ w x w':=by
 generalize jX:vl.ownBlock=ob;have HOB:=Z jX;clear jX;have hsf:=sfl;have hO:=h.lt;have jl:=h.base;have jh:Hid (∀w' vO vi,KO cl ob w w'->MS cl B w' vO vi va (dQ g ⟨6,⟨ck,F,ct,O,cq,ci,cp,cg⟩,id,xj,qty,xk,xh⟩) (tkM g t ⟨6,⟨ck,F,ct,O,cq,ci,cp,cg⟩,id,xj,qty,xk,xh⟩) (kdM kd ⟨6,⟨ck,F,ct,O,cq,ci,cp,cg⟩,id,xj,qty,xk,xh⟩) n0 (dyM g dy ⟨6,⟨ck,F,ct,O,cq,ci,cp,cg⟩,id,xj,qty,xk,xh⟩) l0->TakK cl B ob va n0 l0 g t kd dy ⟨6,⟨ck,F,ct,O,cq,ci,cp,cg⟩,id,xj,qty,xk,xh⟩ w (.returned (.tuple #[])) w'):=fun w' vO vi D Y=>⟨rfl,D,vO,vi,Y⟩;obtain⟨h0,k,o,uA,vp,-,hqo⟩:=rule6 (e:=⟨6,⟨ck,F,ct,O,cq,ci,cp,cg⟩,id,xj,qty,xk,xh⟩) rfl hr;simp only at uA hqo;have uj:Hid (dQ g ⟨6,⟨ck,F,ct,O,cq,ci,cp,cg⟩,id,xj,qty,xk,xh⟩ = { g with l:=g.l.take k++g.l.drop (k+1),bg:=6 }):=by show _ = _;rw[step6 rfl];simp only[begG,if_pos h0,gz uA vp];rw[dR,if_pos hqo.symm]
 have un:Hid (tkM g t ⟨6,⟨ck,F,ct,O,cq,ci,cp,cg⟩,id,xj,qty,xk,xh⟩=t/\kdM kd ⟨6,⟨ck,F,ct,O,cq,ci,cp,cg⟩,id,xj,qty,xk,xh⟩=kd/\dyM g dy ⟨6,⟨ck,F,ct,O,cq,ci,cp,cg⟩,id,xj,qty,xk,xh⟩=dy):=⟨rfl,rfl,rfl⟩;have xr:g.l ≠ []:=by intro h;rw[h] at vp;simp at vp
 have oE:=(yH.1 vp).1;obtain⟨gb,cap,rfl,ur,hBg,hgw⟩:=fL h.row xr;have kO:=hi.len;have ku:=Z uA;clear h0 uA vp hqo;generalize TakK cl B ob va n0 l0 g t kd dy ⟨6,⟨ck,F,ct,O,cq,ci,cp,cg⟩,id,xj,qty,xk,xh⟩ w=C at jh |-;obtain⟨xD,HX⟩:=mu w (yv 6 ck F ct O cq ci cp cg id xj qty xk xh) 37;have HM:=Z (zy h xD);have HB:Hid (KO cl ob w (w.alloc (mq (yv 6 ck F ct O cq ci cp cg id xj qty xk xh).toArray 37))):=ko_of xD;clear h xD hi hm he hr;go_enter Tryz.func60,Tryz.ntmps60;refine ms fun mR HK=>?_;go_wp2_with fail;refine U HK _ _ ?_;clear HK;generalize (w.alloc (mq (yv 6 ck F ct O cq ci cp cg id xj qty xk xh).toArray 37))=W1 at HX HM HB |-;have c9:=A (U HM).box 9 rfl;have q9:=zd (U HM).box 9 (by show 9<13;decide);have xv:Hid (KO cl ob w (World.setCells W1 cl 9 [.bool true])):=eC (U HB) 9 _;have xV:Hid (MS cl B (World.setCells W1 cl 9 [.bool true]) (.slice (some (J gb 0)) g.l.length cap) vd va { g with bg:=6 } t kd n0 dy l0):=fu (U HM) 9 [.bool true] (by simp) rfl rfl (fun h=>absurd (show(6:Int)=0 from h) (by decide));have xG:Hid (Bx (World.setCells W1 cl 9 [.bool true]) w.heap.size (yv 6 ck F ct O cq ci cp cg id xj qty xk xh)):=dU (U HX) (et cl w.heap.size (by omega) _ 9 W1);clear HX HM HB;refine ms fun mR HK=>?_;go_wp2_with fail;refine U HK _ _ ?_;clear HK;change Code.wp _ _ _ _ (World.setCells W1 cl 9 [.bool true]);generalize World.setCells W1 cl 9 [.bool true]=hg at xv xV xG |-;have vn:Hid (RdR Od.vs 6 hg (.slice (some (J gb 0)) g.l.length cap) g.l):=zI (U xV).row (yO kO (by decide));have e0:=A (U xG) 0 rfl;clear c9 q9;go_wp2_with fail;have qk:Hid (yn hg hg.drew):=(Below.refl _ _).drew;have hOX:=(U xV).lt;have hWX:w.heap.size<hg.heap.size:=yL _ _ e0;have c1:=A (U xV).box 1 rfl;have q1:=zd (U xV).box 1 (by show 1<13;decide);have e9:=A (U xG) 9 rfl;have pM:Hid (∀V,yn hg V->Calls Tryz.prog 37 #[.slice (some (J gb 0)) g.l.length cap,H id] V fun e w'=>e = .returned (H k)/\yn hg w'):=fun V hV=>(fV _ g.l id V (zi (U vn) hV ya)).mono fun e w' ⟨D,Y⟩=>⟨by rw[D,U ku],hV.trans (Y.mono hV.size)⟩
 have aM:Hid (∀V,yn hg V->Calls Tryz.prog 38 #[.slice (some (J gb 0)) g.l.length cap,H k] V fun e w'=>∃v',e = .returned v'/\ORow w' hg.heap.size v' (g.l.take k++g.l.drop (k+1))/\yn hg w'):=fun V hV=>by
  obtain⟨a9,c9,e9,-,dH⟩:=zi (U vn) hV ya;obtain⟨b9,o9,uW,ay,hcl9⟩:=dH xr;rw[uW] at e9;simp only[Value.slice.injEq,Option.some.injEq,Addr.mk.injEq,and_true,true_and] at e9;obtain⟨⟨rfl,rfl⟩,rfl⟩:=e9;exact(lT gb 0 cap g.l k V hcl9 ay oE ur (yO kO (by decide))).mono fun e w' ⟨v',D,Y,h3⟩=>⟨v',D,zU Y hV.size,hV.trans (h3.mono hV.size)⟩
 have HNL:Hid ((g.l.take k++g.l.drop (k+1)).length<=1073741824):=by show _ <= _;simp only[yQ,List.length_take,List.length_drop];omega
 generalize g.l.take k++g.l.drop (k+1)=NL at aM uj HNL
 go_region_with (first|(go_at_call 37;refine(U pM _ (by first|exact hq|exact U qk)).mono ?_;rintro e w4 ⟨rfl,hq⟩;have y1:=(hq.cell (p:=(J cl 1)) hOX).trans c1;have r1:=(World.frozen?_of_block (a:=(J cl 1)) (hq.block cl hOX)).trans q1;have y9:=(hq.cell (p:=(J w.heap.size 9)) hWX).trans e9)|(go_at_call 38;refine(U aM _ hq).mono ?_;rintro e w5 ⟨v12,rfl,Q,hq⟩;have y1:=(hq.cell (p:=(J cl 1)) hOX).trans c1;have r1:=(World.frozen?_of_block (a:=(J cl 1)) (hq.block cl hOX)).trans q1;obtain⟨a5,c5,rfl⟩:=gf (zI Q (U HNL))))
 all_goals
  go_end0;refine U jh _ (.slice a5 NL.length c5) vd (eC (ij (U xv) hq) 1 [_]) ?_;rw[U uj,(U un).1,(U un).2.1,(U un).2.2];exact ms_list (zy (U xV) hq) (zU Q (U xV).base) (fun h=>absurd (show(6:Int)=0 from h) (by decide))
structure R3 (C:Nat->Value->Prop) (cl:Nat) (ta ev:Value) (us:List Value) (B0:World) (hR:List Od) (x:List Bool) (f:Nat->Value) (W:World):Prop where
 c:∀j,x[j]? = some true->C j (f j)
 bel:x[24]? = some false->Below B0.heap.size B0 W
 m17:x[17]? = some true->∃v,f 17 = .tuple #[v,ta,ev]/\(x[24]? = some false->ORow W B0.heap.size v hR)
 m18:x[18]? = some true->f 18=f 17
 m19:x[19]? = some true->f 17 = .tuple #[f 19,ta,ev]
 z:x[24]? = some true->∃W0,(ORow W0 B0.heap.size (f 19) hR/\Below B0.heap.size B0 W0)/\(x[27]? = some false->W=W0.setCell ⟨cl,1,none⟩ (f 19))/\(x[27]? = some true->W=World.setCells (W0.setCell ⟨cl,1,none⟩ (f 19)) cl 2 us)
def R3A (cs:(Nat->Value)->Act)(C:Nat->Value->Prop)(cl:Nat)(ta ev:Value)(us:List Value)(B0:World)(hR:List Od)(x:List Bool)(zb:Act)(W:World):Prop:=∃f,zb=cs f/\R3 C cl ta ev us B0 hR x f W
section
variable {C:Nat->Value->Prop} {cl:Nat} {ta ev:Value} {us:List Value} {B0 W W':World} {hR:List Od} {x:List Bool} {f:Nat->Value}
theorem r3_grow (h:R3 C cl ta ev us B0 hR x f W)(n:x[24]? = some false)(E:yn W W'):R3 C cl ta ev us B0 hR x f W':=
 ⟨h.c,fun _=>(h.bel n).trans (E.mono (h.bel n).size),fun a=>by
  obtain⟨v,D,Y⟩:=h.m17 a;exact⟨v,D,fun n=>zt (Y n) E⟩,h.m18,h.m19,fun a=>by rw[n] at a;cases a⟩
theorem ey (h:R3 C cl ta ev us B0 hR x f W)(i:Nat)(v:Value)(hv:C i v)(hi:i≠17/\i≠18/\i≠19/\i≠24/\i≠27):R3 C cl ta ev us B0 hR (x.set i true) (upd f i v) W:=by
 obtain⟨D,h6,jc,vT,jd⟩:=hi;refine⟨zC h.c hv,?_,?_,?_,?_,?_⟩ <;> simp only[gq D,gq h6,gq jc,gq vT,gq jd,zk f v D.symm,zk f v h6.symm,zk f v jc.symm]
 ·exact h.bel
 ·exact h.m17
 ·exact h.m18
 ·exact h.m19
 ·exact h.z
theorem r3_17 (h:R3 C cl ta ev us B0 hR x f W)(n:x[24]? = some false)(n18:x[18]? = some false)(n19:x[19]? = some false)(hc:∀v,C 17 v){v:Value}(Q:ORow W' B0.heap.size v hR)(E:yn W W'):R3 C cl ta ev us B0 hR (x.set 17 true) (upd f 17 (.tuple #[v,ta,ev])) W':=by
 have X:=r3_grow h n E;refine⟨zC X.c (hc _),fun _=>X.bel n,fun _=>⟨v,zo _ _ _,fun _=>Q⟩,?_,?_,?_⟩
 ·intro e;rw[gq (by decide),n18] at e;cases e
 ·intro e;rw[gq (by decide),n19] at e;cases e
 ·intro e;rw[gq (by decide),n] at e;cases e
theorem r3_18 (h:R3 C cl ta ev us B0 hR x f W)(hc:∀v,C 18 v):R3 C cl ta ev us B0 hR (x.set 18 true) (upd f 18 (f 17)) W:=by
 refine⟨zC h.c (hc _),?_,?_,fun _=>?_,?_,?_⟩
 ·rw[gq (by decide)];exact h.bel
 ·rw[gq (by decide),gq (by decide),zk _ _ (by decide)];exact h.m17
 ·rw[zo,zk _ _ (by decide)]
 ·rw[gq (by decide),zk _ _ (by decide),zk _ _ (by decide)];exact h.m19
 ·rw[gq (by decide),gq (by decide),zk _ _ (by decide)];exact h.z
theorem r3_19 (h:R3 C cl ta ev us B0 hR x f W)(n:x[24]? = some false)(hc:∀v,C 19 v){v:Value}(hv:f 17 = .tuple #[v,ta,ev]):R3 C cl ta ev us B0 hR (x.set 19 true) (upd f 19 v) W:=by
 refine⟨zC h.c (hc _),?_,?_,?_,fun _=>?_,?_⟩
 ·rw[gq (by decide)];exact h.bel
 ·rw[gq (by decide),gq (by decide),zk _ _ (by decide)];exact h.m17
 ·rw[gq (by decide),zk _ _ (by decide),zk _ _ (by decide)];exact h.m18
 ·rw[zo,zk _ _ (by decide)];exact hv
 ·intro e;rw[gq (by decide),n] at e;cases e
theorem r3_row (h:R3 C cl ta ev us B0 hR x f W)(n:x[24]? = some false)(jC:x[17]? = some true)(h19:x[19]? = some true):ORow W B0.heap.size (f 19) hR:=by
 obtain⟨v,D,Y⟩:=h.m17 jC;have h3:=h.m19 h19;rw[D] at h3;simp only[Value.tuple.injEq,Array.mk.injEq,List.cons.injEq,and_true] at h3;rw[<- h3];exact Y n
theorem r3_24 (h:R3 C cl ta ev us B0 hR x f W)(n:x[24]? = some false)(n27:x[27]? = some false)(jC:x[17]? = some true)(h19:x[19]? = some true)(hc:∀v,C 24 v):R3 C cl ta ev us B0 hR (x.set 24 true) f (W.setCell (J cl 1) (f 19)):=by
 refine⟨fun j hj=>?_,?_,fun _=>?_,?_,?_,fun _=>⟨W,⟨r3_row h n jC h19,h.bel n⟩,fun _=>rfl,fun e=>?_⟩⟩
 ·by_cases hjm:j=24
  ·subst hjm;exact hc _
  ·rw[gq (fun e=>hjm e.symm)] at hj;exact h.c j hj
 ·intro e;rw[gqs n] at e;cases e
 ·obtain⟨v,D,_⟩:=h.m17 jC;exact⟨v,D,fun e=>by rw[gqs n] at e;cases e⟩
 ·rw[gq (by decide)];exact h.m18
 ·rw[gq (by decide)];exact h.m19
 ·rw[gq (by decide),n27] at e;cases e
theorem r3_27 (h:R3 C cl ta ev us B0 hR x f W)(n27:x[27]? = some false)(h24:x[24]? = some true)(hc:∀v,C 27 v):R3 C cl ta ev us B0 hR (x.set 27 true) f (World.setCells W cl 2 us):=by
 obtain⟨W0,hA,D,_⟩:=h.z h24;refine⟨fun j hj=>?_,?_,fun e=>?_,?_,?_,fun _=>⟨W0,hA,fun e=>?_,fun _=>?_⟩⟩
 ·by_cases hjm:j=27
  ·subst hjm;exact hc _
  ·rw[gq (fun e=>hjm e.symm)] at hj;exact h.c j hj
 ·intro e;rw[gq (by decide),h24] at e;cases e
 ·rw[gq (by decide)] at e;obtain⟨v,D,_⟩:=h.m17 e;exact⟨v,D,fun e=>by rw[gq (by decide),h24] at e;cases e⟩
 ·rw[gq (by decide)];exact h.m18
 ·rw[gq (by decide)];exact h.m19
 ·rw[gqs n27] at e;cases e
 ·rw[D n27]
end
theorem take_3 {cl B:Nat}{vl vd va:Value}{g:Gr}{t:Od}{kd n0:Int}{dy l0:List Od}(ck F ct O cq ci:Int)(cp:Nat)(cg:ByteArray)(id xj qty xk xh:Int)(w:World)(h:MS cl B w vl vd va g t kd n0 dy l0)(hi:GI g)(hm:MR g t kd dy)(he:okE ⟨3,⟨ck,F,ct,O,cq,ci,cp,cg⟩,id,xj,qty,xk,xh⟩=true)(hr:zE g ⟨3,⟨ck,F,ct,O,cq,ci,cp,cg⟩,id,xj,qty,xk,xh⟩=0):Calls Tryz.prog 60 #[I cl 0,.agg (yv 3 ck F ct O cq ci cp cg id xj qty xk xh).toArray] w fun x w'=>TakK cl B vl.ownBlock va n0 l0 g t kd dy ⟨3,⟨ck,F,ct,O,cq,ci,cp,cg⟩,id,xj,qty,xk,xh⟩ w x w':=by
 generalize jX:vl.ownBlock=ob;have HOB:=Z jX;clear jX;have hsf:=sfl;have hO:=h.lt;have jl:=h.base;have jh:Hid (∀w' vO vi,KO cl ob w w'->MS cl B w' vO vi va (dQ g ⟨3,⟨ck,F,ct,O,cq,ci,cp,cg⟩,id,xj,qty,xk,xh⟩) (tkM g t ⟨3,⟨ck,F,ct,O,cq,ci,cp,cg⟩,id,xj,qty,xk,xh⟩) (kdM kd ⟨3,⟨ck,F,ct,O,cq,ci,cp,cg⟩,id,xj,qty,xk,xh⟩) n0 (dyM g dy ⟨3,⟨ck,F,ct,O,cq,ci,cp,cg⟩,id,xj,qty,xk,xh⟩) l0->TakK cl B ob va n0 l0 g t kd dy ⟨3,⟨ck,F,ct,O,cq,ci,cp,cg⟩,id,xj,qty,xk,xh⟩ w (.returned (.tuple #[])) w'):=fun w' vO vi D Y=>⟨rfl,D,vO,vi,Y⟩;obtain⟨D,jN,o,oD,-,uk,bp,hqt,-⟩:=rule3 (e:=⟨3,⟨ck,F,ct,O,cq,ci,cp,cg⟩,id,xj,qty,xk,xh⟩) rfl hr;simp only at uk bp hqt;have qq:t=g.tk:=hm.same jN;have pm:=hi.good (.inr jN);obtain⟨k,vp⟩:∃k:Nat,g.l[k]? = some o:=List.getElem?_of_mem (gJ oD).1;have uA:plc g.l xj=k:=by rw[bp];exact fU pm.rise vp
 have uj:Hid (dQ g ⟨3,⟨ck,F,ct,O,cq,ci,cp,cg⟩,id,xj,qty,xk,xh⟩ = { g with l:=(dR g.l k o qty),tk:={ g.tk with left:=g.tk.left-qty } }):=by show _ = _;rw[step3 rfl];simp only[begG,gz uA vp];rw[if_neg (by omega)]
 have un:Hid (tkM g t ⟨3,⟨ck,F,ct,O,cq,ci,cp,cg⟩,id,xj,qty,xk,xh⟩ = { t with left:=t.left-qty }/\kdM kd ⟨3,⟨ck,F,ct,O,cq,ci,cp,cg⟩,id,xj,qty,xk,xh⟩=kd/\dyM g dy ⟨3,⟨ck,F,ct,O,cq,ci,cp,cg⟩,id,xj,qty,xk,xh⟩=dy):=⟨rfl,rfl,rfl⟩;have HQ:Hid (min t.left o.left=qty):=by show _ = _;rw[qq,hqt]
 have xr:g.l ≠ []:=by intro h;rw[h] at vp;simp at vp
 obtain⟨gb,cap,rfl,ur,hBg,hgw⟩:=fL h.row xr;have kO:=hi.len;have HIO:=Z vp;have hbo:=pm.left o (gJ oD).1;have HTL:Hid (0<=t.left/\t.left<=1000000/\0<=o.left/\o.left<=1000000):=by have:=hi.l0;have:=hi.l1;rw[qq];exact⟨by omega,by omega,by omega,by omega⟩
 have ku:=Z uA;have hbn:(g.bg != 0)=true:=by simp[D]
 have bX:Hid (g.bg≠0):=by show _ ≠ _;omega
 have HLN:Hid ((dR g.l k o qty).length<=1073741824):=by
  show _ <= _;unfold dR;split
  ·simp;omega
  ·simp;omega
 clear D jN oD uk bp hqt qq pm uA vp hbo;generalize TakK cl B ob va n0 l0 g t kd dy ⟨3,⟨ck,F,ct,O,cq,ci,cp,cg⟩,id,xj,qty,xk,xh⟩ w=C at jh |-;obtain⟨xD,HX⟩:=mu w (yv 3 ck F ct O cq ci cp cg id xj qty xk xh) 37;have HM:=Z (zy h xD);have HB:Hid (KO cl ob w (w.alloc (mq (yv 3 ck F ct O cq ci cp cg id xj qty xk xh).toArray 37))):=ko_of xD;clear h xD hi hm he hr;go_enter Tryz.func60,Tryz.ntmps60;refine ms fun mR HK=>?_;go_wp2_with fail;refine U HK _ _ ?_;clear HK;generalize (w.alloc (mq (yv 3 ck F ct O cq ci cp cg id xj qty xk xh).toArray 37))=W1 at HX HM HB |-;have c9:=A (U HM).box 9 rfl;have q9:=zd (U HM).box 9 (by show 9<13;decide);have xv:Hid (KO cl ob w (World.setCells W1 cl 9 [.bool true])):=eC (U HB) 9 _;have xV:Hid (MS cl B (World.setCells W1 cl 9 [.bool true]) (.slice (some (J gb 0)) g.l.length cap) vd va g t kd n0 dy l0):=fu (U HM) 9 [.bool true] (by simp) (by simp[msV,hbn]) rfl (fun h=>absurd h (U bX));have xG:Hid (Bx (World.setCells W1 cl 9 [.bool true]) w.heap.size (yv 3 ck F ct O cq ci cp cg id xj qty xk xh)):=dU (U HX) (et cl w.heap.size (by omega) _ 9 W1);clear HX HM HB hbn;refine ms fun mR HK=>?_;go_wp2_with fail;refine U HK _ _ ?_;clear HK;change Code.wp _ _ _ _ (World.setCells W1 cl 9 [.bool true]);generalize World.setCells W1 cl 9 [.bool true]=hg at xv xV xG |-;have vn:Hid (RdR Od.vs 6 hg (.slice (some (J gb 0)) g.l.length cap) g.l):=zI (U xV).row (yO kO (by decide));have hSX:w.heap.size<hg.heap.size:=yL _ _ (A (U xG) 0 rfl);have e0:=A (U xG) 0 rfl;clear c9 q9;go_wp2_with fail;refine zu (R3A (fun f=>{ tmps:=#[I cl 0,.agg (yv 3 ck F ct O cq ci cp cg id xj qty xk xh).toArray,M,I w.heap.size 0,M,I cl 0,I cl 0,I cl 9,I w.heap.size 0,H 3,.bool false,.bool false,M,M,M,M,M,M,M,M,M,M,M,M,M,M,M,M,M,M,M,M,M,M,M,.bool true,.bool true,f 18,f 0,f 1,f 2,f 3,f 4,f 5,f 6,f 7,f 8,f 9,f 10,f 11,f 12,f 13,f 14,f 15,f 16,f 17,f 19,f 20,f 21,f 22,f 23,f 25,f 26,M,M,M,M,M,M,M,M,M,M,M,M,M,M,M,M,M,M,M,M,M,M,M,M,M,M,M,M,M,M,M,M,M,M,M,M,M,M,M,M,M,M,M,M,M,M,M,M,M,M,M,M,M,M,M,M,M,M,M,M,M,M,M,M,M,M,M,M,M,M,M,M,M,M,M,M,M,M,M,M,M,M,M,M,M,M,M,M,M,M,M,M,M,M,M,M,M,M,M,M,M,M,M,M,M,M,M,M,M,M,M,M,M,M,M,M,M,M,M,M,M,M],defers:=[] }) (fun j v=>∀u,([some (I cl 0),some (I cl 0),some (I cl 0),some (I cl 0),some (I cl 1),some (.slice (some (J gb 0)) g.l.length cap),some (I cl 0),some (I cl 0),some (I cl 2),some (.agg (yw t.id t.side t.ticks t.left t.life t.tag).toArray),some (I cl 0),some (I cl 0),some (I cl 1),some (.slice (some (J gb 0)) g.l.length cap),some (I w.heap.size 10),some (H xj),some (H k),none,none,none,some (.agg (yw t.id t.side t.ticks (t.left-qty) t.life t.tag).toArray),some (.agg (Ev.vs (trE t.id o.id qty o.ticks)).toArray),some (I cl 0),some (I cl 1),none,some (I cl 0),some (I cl 2),none]:List (Option Value))[j]? = some (some u)->v=u) cl (.agg (yw t.id t.side t.ticks (t.left-qty) t.life t.tag).toArray) (.agg (Ev.vs (trE t.id o.id qty o.ticks)).toArray) (yw t.id t.side t.ticks (t.left-qty) t.life t.tag) hg (dR g.l k o qty)) (by kernel_rfl) ?_ ?_ ?_
 ·have vN:∀j,(List.replicate 28 false)[j]? = some true->False:=fun j hj=>by rw[yJ] at hj;split at hj <;> simp at hj
  exact⟨fun _=>M,rfl,⟨fun j hj=>(vN j hj).elim,fun _=>⟨rfl,rfl,rfl,Nat.le_refl _,fun _ _=>rfl⟩,fun h=>(vN _ h).elim,fun h=>(vN _ h).elim,fun h=>(vN _ h).elim,fun h=>(vN _ h).elim⟩⟩
 ·rintro x zb h2 ⟨f,rfl,L⟩ hx xS;have xq:=fP xS hx (by kernel_rfl);obtain⟨W0,⟨Q,xD⟩,-,eY⟩:=L.z (xq 24 (by simp));have eY:=eY (xq 27 (by simp));have jS:=Z (zy (U xV) xD);have xF:=Z (ij (U xv) xD);have kD:=Z (zU Q (U xV).base);clear L xq xS hx xD Q;dsimp only;generalize f 0=v0,f 1=v1,f 2=v2,f 3=v3,f 4=v4,f 5=v5,f 6=v6,f 7=v7,f 8=v8,f 9=v9,f 10=v10,f 11=v11,f 12=v12,f 13=v13,f 14=v14,f 15=v15,f 16=v16,f 17=v17,f 18=v18;generalize f 19=v19 at *;generalize f 20=v20,f 21=v21,f 22=v22,f 23=v23,f 25=v25,f 26=v26;have uS:Hid (MS cl B (W0.setCell (J cl 1) v19) v19 vd va { g with l:=(dR g.l k o qty) } t kd n0 dy l0):=ms_list (U jS) (U kD) (fun h=>absurd h (U bX));have ui:Hid (KO cl ob w (W0.setCell (J cl 1) v19)):=eC (U xF) 1 [v19];subst eY;go_end0;refine U jh _ v19 vd (eC (U ui) 2 (yw t.id t.side t.ticks (t.left-qty) t.life t.tag)) ?_;rw[U uj,(U un).1,(U un).2.1,(U un).2.2];exact fu (U uS) 2 (yw t.id t.side t.ticks (t.left-qty) t.life t.tag) (by simp) rfl rfl (fun h=>absurd h (U bX))
 ·rintro x zb V i op ⟨f,rfl,L⟩ xn hx Q xu R;have xw:=Z L
  match i,Q with
  | 0,Q|1,Q|2,Q|6,Q|10,Q =>
   cases Q;clear R L xn;go_simp;exact⟨upd f _ (I cl 0),by simp[upd],ey (U xw) _ _ (yi rfl) (by decide)⟩
  | 3,Q =>
   cases Q;have g2:=L.c 2 (ye R 2 rfl) _ rfl;clear R L xn;go_simp;exact⟨upd f 3 (I cl 0),by simp[upd,g2],ey (U xw) 3 _ (yi rfl) (by decide)⟩
  | 4,Q =>
   cases Q;have g3:=L.c 3 (ye R 3 rfl) _ rfl;clear R L xn;go_simp;exact⟨upd f 4 (I cl 1),by simp[upd,g3],ey (U xw) 4 _ (yi rfl) (by decide)⟩
  | 5,Q =>
   cases Q;have g4:=L.c 4 (ye R 4 rfl) _ rfl;have aI:x[24]? = some false:=zH xn 28 5 24 (by kernel_rfl) hx (by simp) xu;have pO:=Z (zy (U xV) (L.bel aI));have z1:=A (U pO).box 1 rfl;clear R L xn;go_simp;exact⟨upd f 5 (.slice (some (J gb 0)) g.l.length cap),by simp[upd,g4],ey (U xw) 5 _ (yi rfl) (by decide)⟩
  | 7,Q =>
   cases Q;have g6:=L.c 6 (ye R 6 rfl) _ rfl;clear R L xn;go_simp;exact⟨upd f 7 (I cl 0),by simp[upd,g6],ey (U xw) 7 _ (yi rfl) (by decide)⟩
  | 8,Q =>
   cases Q;have g7:=L.c 7 (ye R 7 rfl) _ rfl;clear R L xn;go_simp;exact⟨upd f 8 (I cl 2),by simp[upd,g7],ey (U xw) 8 _ (yi rfl) (by decide)⟩
  | 9,Q =>
   cases Q;have g8:=L.c 8 (ye R 8 rfl) _ rfl;have aI:x[24]? = some false:=zH xn 28 9 24 (by kernel_rfl) hx (by simp) xu;have pO:=Z (zy (U xV) (L.bel aI));have z2:=A (U pO).box 2 rfl;have z3:=A (U pO).box 3 rfl;have z4:=A (U pO).box 4 rfl;have z5:=A (U pO).box 5 rfl;have z6:=A (U pO).box 6 rfl;have z7:=A (U pO).box 7 rfl;clear R L xn;go_simp;exact⟨upd f 9 (.agg (yw t.id t.side t.ticks t.left t.life t.tag).toArray),by simp[upd,g8],ey (U xw) 9 _ (yi rfl) (by decide)⟩
  | 11,Q =>
   cases Q;have jL:=L.c 10 (ye R 10 rfl) _ rfl;clear R L xn;go_simp;exact⟨upd f 11 (I cl 0),by simp[upd,jL],ey (U xw) 11 _ (yi rfl) (by decide)⟩
  | 12,Q =>
   cases Q;have jB:=L.c 11 (ye R 11 rfl) _ rfl;clear R L xn;go_simp;exact⟨upd f 12 (I cl 1),by simp[upd,jB],ey (U xw) 12 _ (yi rfl) (by decide)⟩
  | 13,Q =>
   cases Q;have vY:=L.c 12 (ye R 12 rfl) _ rfl;have aI:x[24]? = some false:=zH xn 28 13 24 (by kernel_rfl) hx (by simp) xu;have pO:=Z (zy (U xV) (L.bel aI));have z1:=A (U pO).box 1 rfl;clear R L xn;go_simp;exact⟨upd f 13 (.slice (some (J gb 0)) g.l.length cap),by simp[upd,vY],ey (U xw) 13 _ (yi rfl) (by decide)⟩
  | 14,Q =>
   cases Q;clear R L xn;go_simp;exact⟨upd f 14 (I w.heap.size 10),by simp[upd],ey (U xw) 14 _ (yi rfl) (by decide)⟩
  | 15,Q =>
   cases Q;have pf:=L.c 14 (ye R 14 rfl) _ rfl;have aI:x[24]? = some false:=zH xn 28 15 24 (by kernel_rfl) hx (by simp) xu;have jD:=A (zg (U xG) (L.bel aI) hSX) 10 rfl;clear R L xn;go_simp;exact⟨upd f 15 (H xj),by simp[upd,pf],ey (U xw) 15 _ (yi rfl) (by decide)⟩
  | 16,Q =>
   cases Q;have kI:=L.c 13 (ye R 13 rfl) _ rfl;have g15:=L.c 15 (ye R 15 rfl) _ rfl;have aI:x[24]? = some false:=zH xn 28 16 24 (by kernel_rfl) hx (by simp) xu;have aw:=Z (zi (U vn) (L.bel aI) ya);clear R L xn;go_simp;refine(fV _ g.l xj V (U aw)).mono ?_;rw[U ku];rintro e w4 ⟨rfl,xy⟩;exact⟨upd f 16 (H k),by simp[upd,kI,g15],ey (r3_grow (U xw) aI xy) 16 _ (yi rfl) (by decide)⟩
  | 17,Q =>
   cases Q;have aI:x[24]? = some false:=zH xn 28 17 24 (by kernel_rfl) hx (by simp) xu;have g5:=L.c 5 (ye R 5 rfl) _ rfl;have g9:=L.c 9 (ye R 9 rfl) _ rfl;have g16:=L.c 16 (ye R 16 rfl) _ rfl;have k18:x[18]? = some false:=zH xn 28 17 18 (by kernel_rfl) hx (by simp) xu;have k19:x[19]? = some false:=zH xn 28 17 19 (by kernel_rfl) hx (by simp) xu;have vG:=L.bel aI;have aw:=Z (zi (U vn) vG ya);have HSV:=Z vG.size;obtain⟨a0,a1,a2,a3⟩:=U HTL;have HHT:=Z (l04Hit_any _ g.l t o k V (U aw) (yO kO (by decide)) (U HIO) a0 a1 a2 a3);rw[U HQ] at HHT;clear R L xn vG a0 a1 a2 a3;go_simp;refine(U HHT).mono ?_;rintro e w4 ⟨v9,rfl,bT,xy⟩;exact⟨upd f 17 (.tuple #[v9,.agg (yw t.id t.side t.ticks (t.left-qty) t.life t.tag).toArray,.agg (Ev.vs (trE t.id o.id qty o.ticks)).toArray]),by simp[upd,g5,g9,g16,Od.vs],r3_17 (U xw) aI k18 k19 (fun v u hu=>by cases hu) (zU bT (U HSV)) xy⟩
  | 18,Q =>
   cases Q;clear R L xn;go_simp;exact⟨upd f 18 (f 17),by simp[upd],r3_18 (U xw) (fun v u hu=>by cases hu)⟩
  | 19,Q =>
   cases Q;have aI:x[24]? = some false:=zH xn 28 19 24 (by kernel_rfl) hx (by simp) xu;have bE:x[17]? = some true:=yf xn 18 rfl (ye R 18 rfl) 17 rfl;obtain⟨v9,e9,-⟩:=L.m17 bE;have g18:f 18 = .tuple #[v9,.agg (yw t.id t.side t.ticks (t.left-qty) t.life t.tag).toArray,.agg (Ev.vs (trE t.id o.id qty o.ticks)).toArray]:=(L.m18 (ye R 18 rfl)).trans e9;clear R L xn;go_simp;exact⟨upd f 19 (v9),by simp[upd,g18,e9],r3_19 (U xw) aI (fun v u hu=>by cases hu) e9⟩
  | 20,Q =>
   cases Q;have bE:x[17]? = some true:=yf xn 18 rfl (ye R 18 rfl) 17 rfl;obtain⟨v9,e9,-⟩:=L.m17 bE;have g18:f 18 = .tuple #[v9,.agg (yw t.id t.side t.ticks (t.left-qty) t.life t.tag).toArray,.agg (Ev.vs (trE t.id o.id qty o.ticks)).toArray]:=(L.m18 (ye R 18 rfl)).trans e9;clear R L xn;go_simp;exact⟨upd f 20 (.agg (yw t.id t.side t.ticks (t.left-qty) t.life t.tag).toArray),by simp[upd,g18,e9],ey (U xw) 20 _ (yi rfl) (by decide)⟩
  | 21,Q =>
   cases Q;have bE:x[17]? = some true:=yf xn 18 rfl (ye R 18 rfl) 17 rfl;obtain⟨v9,e9,-⟩:=L.m17 bE;have g18:f 18 = .tuple #[v9,.agg (yw t.id t.side t.ticks (t.left-qty) t.life t.tag).toArray,.agg (Ev.vs (trE t.id o.id qty o.ticks)).toArray]:=(L.m18 (ye R 18 rfl)).trans e9;clear R L xn;go_simp;exact⟨upd f 21 (.agg (Ev.vs (trE t.id o.id qty o.ticks)).toArray),by simp[upd,g18,e9],ey (U xw) 21 _ (yi rfl) (by decide)⟩
  | 22,Q =>
   cases Q;have g0:=L.c 0 (ye R 0 rfl) _ rfl;clear R L xn;go_simp;exact⟨upd f 22 (I cl 0),by simp[upd,g0],ey (U xw) 22 _ (yi rfl) (by decide)⟩
  | 23,Q =>
   cases Q;have g22:=L.c 22 (ye R 22 rfl) _ rfl;clear R L xn;go_simp;exact⟨upd f 23 (I cl 1),by simp[upd,g22],ey (U xw) 23 _ (yi rfl) (by decide)⟩
  | 24,Q =>
   cases Q;have g23:=L.c 23 (ye R 23 rfl) _ rfl;have k19:x[19]? = some true:=R ⟨19,.data⟩ (by simp) rfl;have bE:x[17]? = some true:=xn 18 _ rfl (yf xn 19 rfl k19 18 rfl) ⟨17,.data⟩ (by simp) rfl;have k27:x[27]? = some false:=zH xn 28 24 27 (by kernel_rfl) hx (by simp) xu;have qu:=Z (zy (U xV) (L.bel xu));have y1:=A (U qu).box 1 rfl;have q1:=zd (U qu).box 1 (by show 1<13;decide);obtain⟨ga,gc,g19⟩:=gf (zI (r3_row L xu bE k19) (U HLN));generalize (dR g.l k o qty).length=gn at g19;clear R L xn;go_simp;refine⟨f,by simp[g23,g19],?_⟩;have:=r3_24 (U xw) xu k27 bE k19 (fun v u hu=>by cases hu);rw[g19] at this;exact this
  | 25,Q =>
   cases Q;have g1:=L.c 1 (ye R 1 rfl) _ rfl;clear R L xn;go_simp;exact⟨upd f 25 (I cl 0),by simp[upd,g1],ey (U xw) 25 _ (yi rfl) (by decide)⟩
  | 26,Q =>
   cases Q;have g25:=L.c 25 (ye R 25 rfl) _ rfl;clear R L xn;go_simp;exact⟨upd f 26 (I cl 2),by simp[upd,g25],ey (U xw) 26 _ (yi rfl) (by decide)⟩
  | 27,Q =>
   cases Q;have g26:=L.c 26 (ye R 26 rfl) _ rfl;have g20:=L.c 20 (ye R 20 rfl) _ rfl;have aI:x[24]? = some true:=R ⟨24,.chain⟩ (by simp) rfl;obtain⟨W0,⟨bT,ay⟩,eV,-⟩:=L.z aI;have eV:=eV xu
   have qu:Hid (MS cl B V (f 19) vd va { g with l:=(dR g.l k o qty) } t kd n0 dy l0):=by
    show MS cl B V (f 19) vd va { g with l:=(dR g.l k o qty) } t kd n0 dy l0;rw[eV];exact ms_list (zy (U xV) ay) (zU bT (U xV).base) (fun h=>absurd h (U bX))
   have c2:=A (U qu).box 2 rfl;have q2:=zd (U qu).box 2 (by show 2<13;decide);have c3:=A (U qu).box 3 rfl;have q3:=zd (U qu).box 3 (by show 3<13;decide);have c4:=A (U qu).box 4 rfl;have q4:=zd (U qu).box 4 (by show 4<13;decide);have c5:=A (U qu).box 5 rfl;have q5:=zd (U qu).box 5 (by show 5<13;decide);have c6:=A (U qu).box 6 rfl;have q6:=zd (U qu).box 6 (by show 6<13;decide);have c7:=A (U qu).box 7 rfl;have q7:=zd (U qu).box 7 (by show 7<13;decide);clear R L xn eV bT ay;go_simp;exact⟨f,by simp[g26,g20],r3_27 (U xw) xu aI (fun v u hu=>by cases hu)⟩
  | i+28,Q=>simp at Q
theorem rd_tail {W:World}{db qC ow:Nat}{o:Od}{dr:List Od}(h:RdR Od.vs 6 W (.slice (some (J db qC)) (o::dr).length ow) (o::dr))(hcp:(o::dr).length<=ow):RdR Od.vs 6 W (.slice (some (J db (qC+6))) dr.length (ow-1)) dr/\(ow-1=0->RdR Od.vs 6 W (.slice (some (J db qC)) dr.length 0) dr):=by
 obtain⟨a,cap,e,hl,hc⟩:=h;simp only[Value.slice.injEq,true_and] at e;obtain⟨rfl,rfl⟩:=e;simp only[List.length_cons] at hl hcp;refine⟨⟨_,_,rfl,by omega,fun xr=>?_⟩,fun h0=>⟨_,_,rfl,by omega,fun xr=>?_⟩⟩
 ·obtain⟨b,off,e2,E,xn⟩:=hc (by simp);simp only[Option.some.injEq,Addr.mk.injEq,and_true] at e2;obtain⟨rfl,rfl⟩:=e2;refine⟨_,_,rfl,E,fun j c hj i u hi=>?_⟩;have:=xn (j+1) c (by simpa using hj) i u hi;rw[show qC+(j+1)*6+i=qC+6+j*6+i by omega] at this;exact this
 ·exfalso;cases dr with
  | nil=>exact xr rfl
  | cons a b=>simp only[List.length_cons] at hcp;omega
theorem ms_days {cl B:Nat}{W:World}{vl vd vi va:Value}{g:Gr}{t:Od}{kd n0:Int}{dy dy' l0:List Od}(h:MS cl B W vl vd va g t kd n0 dy l0)(hd:RdR Od.vs 6 W vi dy')(hn:dy' ≠ []->∀b off n c,vi = .slice (some (J b off)) n c->b≠cl/\n<=c)(ht:dy' ≠ []->∀b off n c,vi = .slice (some (J b off)) n c->DyT W b)(hq:g.bg≠0):MS cl B (W.setCell (J cl 10) vi) vl vi va g t kd n0 dy' l0:=
 ⟨fi h.box (by show 10<13;decide),gQ h.nl [vi] 10 W h.row,gO (us:=[vi]) (o:=10) hd (fun xr b off n c e=>(hn xr b off n c e).1),gO (us:=[vi]) (o:=10) h.ahd (fun xr b' off n c e=>by have:=h.na xr b' off n c e;have:=h.hO;omega),h.sla,iH [vi] 10 W h.typ,h.hO,fun h=>absurd h hq,hn,h.na,fun hd b off n c e=>dyT_blk (ht hd b off n c e) (et cl b (hn hd b off n c e).1 [vi] 10 W)⟩
theorem take_9 {cl B:Nat}{vl vd va:Value}{g:Gr}{t:Od}{kd n0:Int}{dy l0:List Od}(ck F ct O cq ci:Int)(cp:Nat)(cg:ByteArray)(id xj qty xk xh:Int)(w:World)(h:MS cl B w vl vd va g t kd n0 dy l0)(hi:GI g)(hm:MR g t kd dy)(he:okE ⟨9,⟨ck,F,ct,O,cq,ci,cp,cg⟩,id,xj,qty,xk,xh⟩=true)(hr:zE g ⟨9,⟨ck,F,ct,O,cq,ci,cp,cg⟩,id,xj,qty,xk,xh⟩=0):Calls Tryz.prog 60 #[I cl 0,.agg (yv 9 ck F ct O cq ci cp cg id xj qty xk xh).toArray] w fun x w'=>TakK cl B vl.ownBlock va n0 l0 g t kd dy ⟨9,⟨ck,F,ct,O,cq,ci,cp,cg⟩,id,xj,qty,xk,xh⟩ w x w':=by
 generalize jX:vl.ownBlock=ob;have HOB:=Z jX;clear jX;have hsf:=sfl;have hO:=h.lt;have jl:=h.base;have jh:Hid (∀w' vO vi,KO cl ob w w'->MS cl B w' vO vi va (dQ g ⟨9,⟨ck,F,ct,O,cq,ci,cp,cg⟩,id,xj,qty,xk,xh⟩) (tkM g t ⟨9,⟨ck,F,ct,O,cq,ci,cp,cg⟩,id,xj,qty,xk,xh⟩) (kdM kd ⟨9,⟨ck,F,ct,O,cq,ci,cp,cg⟩,id,xj,qty,xk,xh⟩) n0 (dyM g dy ⟨9,⟨ck,F,ct,O,cq,ci,cp,cg⟩,id,xj,qty,xk,xh⟩) l0->TakK cl B ob va n0 l0 g t kd dy ⟨9,⟨ck,F,ct,O,cq,ci,cp,cg⟩,id,xj,qty,xk,xh⟩ w (.returned (.tuple #[])) w'):=fun w' vO vi D Y=>⟨rfl,D,vO,vi,Y⟩;obtain⟨h8,o,hf,hd,uk,hqo⟩:=rule9 (e:=⟨9,⟨ck,F,ct,O,cq,ci,cp,cg⟩,id,xj,qty,xk,xh⟩) rfl hr;simp only at uk hqo;have pm:=hi.good (.inl (by omega));obtain⟨k,vp⟩:=find_at hf;have uA:plc g.l id=k:=by rw[uk];exact fU pm.rise vp
 have hpo:plc g.l o.id=k:=fU pm.rise vp;have uj:Hid (dQ g ⟨9,⟨ck,F,ct,O,cq,ci,cp,cg⟩,id,xj,qty,xk,xh⟩ = { g with l:=g.l.take k++g.l.drop (k+1) }):=by show _ = _;rw[step9 rfl,hd];simp only[begG,gz hpo vp];rw[if_neg (by omega),dR,if_pos rfl]
 obtain⟨dr,hdy⟩:∃dr,dy=o::dr:=by
  rw[hm.dy,if_pos h8];rw[<- List.head?_filter] at hf;cases hc:g.l.filter isDy with
  | nil=>rw[hc] at hf;simp at hf
  | cons a b=>rw[hc] at hf;simp at hf;subst hf;exact⟨b,rfl⟩
 subst hdy;have un:Hid (tkM g t ⟨9,⟨ck,F,ct,O,cq,ci,cp,cg⟩,id,xj,qty,xk,xh⟩=t/\kdM kd ⟨9,⟨ck,F,ct,O,cq,ci,cp,cg⟩,id,xj,qty,xk,xh⟩=kd/\dyM g (o::dr) ⟨9,⟨ck,F,ct,O,cq,ci,cp,cg⟩,id,xj,qty,xk,xh⟩=dr):=⟨rfl,rfl,rfl⟩;have xr:g.l ≠ []:=by intro h;rw[h] at vp;simp at vp
 have oE:=(yH.1 vp).1;obtain⟨gb,cap,rfl,ur,hBg,hgw⟩:=fL h.row xr;obtain⟨da,ow,rfl,dJ,hdc⟩:=h.days;obtain⟨db,qC,rfl,hdb,hdcl⟩:=hdc (by simp);have kO:=hi.len;have ku:=Z uA;have hbn:(g.bg != 0)=true:=by simp[h8]
 have bX:Hid (g.bg≠0):=by show _ ≠ _;omega
 have hdl1:(o::dr).length=dr.length+1:=rfl;clear h8 uA hpo vp hqo uk hf hd pm hdc hdcl;generalize TakK cl B ob va n0 l0 g t kd (o::dr) ⟨9,⟨ck,F,ct,O,cq,ci,cp,cg⟩,id,xj,qty,xk,xh⟩ w=C at jh |-;obtain⟨xD,HX⟩:=mu w (yv 9 ck F ct O cq ci cp cg id xj qty xk xh) 37;have HM:=Z (zy h xD);have HB:Hid (KO cl ob w (w.alloc (mq (yv 9 ck F ct O cq ci cp cg id xj qty xk xh).toArray 37))):=ko_of xD;clear h xD hi hm he hr;go_enter Tryz.func60,Tryz.ntmps60;refine ms fun mR HK=>?_;go_wp2_with fail;refine U HK _ _ ?_;clear HK;generalize (w.alloc (mq (yv 9 ck F ct O cq ci cp cg id xj qty xk xh).toArray 37))=W1 at HX HM HB |-;have c9:=A (U HM).box 9 rfl;have q9:=zd (U HM).box 9 (by show 9<13;decide);have xv:Hid (KO cl ob w (World.setCells W1 cl 9 [.bool true])):=eC (U HB) 9 _;have xV:Hid (MS cl B (World.setCells W1 cl 9 [.bool true]) (.slice (some (J gb 0)) g.l.length cap) (.slice (some (J db qC)) (o::dr).length ow) va g t kd n0 (o::dr) l0):=fu (U HM) 9 [.bool true] (by simp) (by simp[msV,hbn]) rfl (fun h=>absurd h (U bX));have xG:Hid (Bx (World.setCells W1 cl 9 [.bool true]) w.heap.size (yv 9 ck F ct O cq ci cp cg id xj qty xk xh)):=dU (U HX) (et cl w.heap.size (by omega) _ 9 W1);clear HX HM HB hbn;refine ms fun mR HK=>?_;go_wp2_with fail;refine U HK _ _ ?_;clear HK;change Code.wp _ _ _ _ (World.setCells W1 cl 9 [.bool true]);generalize World.setCells W1 cl 9 [.bool true]=X0 at xv xV xG |-;have HON:=Z ((U xV).ndc (by simp) db qC _ _ rfl);have HOT:=Z ((U xV).dyt (by simp) db qC _ _ rfl);have HDT:=Z (rd_tail (U xV).days (U HON).2);have e0:=A (U xG) 0 rfl;have c10:=A (U xV).box 10 rfl;have q10:=zd (U xV).box 10 (by show 10<13;decide);rw[hdl1] at c10;clear c9 q9;go_wp2_with fail;have HV:Hid (RdR Od.vs 6 X0 (.slice (some (J db qC)) dr.length 0) dr/\(dr ≠ []->∀b off n c,((.slice (some (J db qC)) dr.length 0):Value) = .slice (some (J b off)) n c->b≠cl/\n<=c)/\(dr ≠ []->∀b off n c,((.slice (some (J db qC)) dr.length 0):Value) = .slice (some (J b off)) n c->DyT X0 b)):=⟨(U HDT).2 (by omega),fun _ b off n c e=>by simp only[Value.slice.injEq,Option.some.injEq,Addr.mk.injEq,and_true] at e;obtain⟨⟨rfl,rfl⟩,rfl,rfl⟩:=e;have:=U HON;rw[hdl1] at this;exact⟨this.1,by omega⟩,fun _ b off n c e=>by simp only[Value.slice.injEq,Option.some.injEq,Addr.mk.injEq,and_true] at e;obtain⟨⟨rfl,rfl⟩,rfl,rfl⟩:=e;exact U HOT⟩;generalize ((.slice (some (J db qC)) dr.length 0):Value)=vi at HV |-;generalize Value.slice (some (J db qC)) (dr.length+1) 1=v166;rotate_left;have HV:Hid (RdR Od.vs 6 X0 (.slice (some (J db (qC+6))) dr.length (ow-1)) dr/\(dr ≠ []->∀b off n c,((.slice (some (J db (qC+6))) dr.length (ow-1)):Value) = .slice (some (J b off)) n c->b≠cl/\n<=c)/\(dr ≠ []->∀b off n c,((.slice (some (J db (qC+6))) dr.length (ow-1)):Value) = .slice (some (J b off)) n c->DyT X0 b)):=⟨(U HDT).1,fun _ b off n c e=>by simp only[Value.slice.injEq,Option.some.injEq,Addr.mk.injEq,and_true] at e;obtain⟨⟨rfl,rfl⟩,rfl,rfl⟩:=e;have:=U HON;rw[hdl1] at this;exact⟨this.1,by omega⟩,fun _ b off n c e=>by simp only[Value.slice.injEq,Option.some.injEq,Addr.mk.injEq,and_true] at e;obtain⟨⟨rfl,rfl⟩,rfl,rfl⟩:=e;exact U HOT⟩;generalize ((.slice (some (J db (qC+6))) dr.length (ow-1)):Value)=vi at HV |-;generalize hv6:Value.slice (some (J db qC)) (dr.length+1) ow=v166 at |-;clear hv6
 all_goals clear h HDT HON HOT
 all_goals
  have HM3:=Z (ms_days (U xV) (U HV).1 (U HV).2.1 (U HV).2.2 (U bX));have xI:Hid (KO cl ob w (X0.setCell (J cl 10) vi)):=eC (U xv) 10 [vi];have uT:Hid (Bx (X0.setCell (J cl 10) vi) w.heap.size (yv 9 ck F ct O cq ci cp cg id xj qty xk xh)):=dU (U xG) (et cl w.heap.size (by omega) [vi] 10 X0);clear xV xv xG HV;change Code.wp _ _ _ _ (X0.setCell (J cl 10) vi);generalize X0.setCell (J cl 10) vi=hg at HM3 xI uT |-;have xV:=HM3;have xv:=xI;have xG:=uT;clear HM3 xI uT c10 q10 e0;have vn:Hid (RdR Od.vs 6 hg (.slice (some (J gb 0)) g.l.length cap) g.l):=zI (U xV).row (yO kO (by decide));have qk:Hid (yn hg hg.drew):=(Below.refl _ _).drew;have hOX:=(U xV).lt;have hWX:w.heap.size<hg.heap.size:=yL _ _ (A (U xG) 0 rfl);have c1:=A (U xV).box 1 rfl;have q1:=zd (U xV).box 1 (by show 1<13;decide);have e9:=A (U xG) 9 rfl;have pM:Hid (∀V,yn hg V->Calls Tryz.prog 37 #[.slice (some (J gb 0)) g.l.length cap,H id] V fun e w'=>e = .returned (H k)/\yn hg w'):=fun V hV=>(fV _ g.l id V (zi (U vn) hV ya)).mono fun e w' ⟨D,Y⟩=>⟨by rw[D,U ku],hV.trans (Y.mono hV.size)⟩
  have aM:Hid (∀V,yn hg V->Calls Tryz.prog 38 #[.slice (some (J gb 0)) g.l.length cap,H k] V fun e w'=>∃v',e = .returned v'/\ORow w' hg.heap.size v' (g.l.take k++g.l.drop (k+1))/\yn hg w'):=fun V hV=>by
   obtain⟨a9,c9,e9,-,dH⟩:=zi (U vn) hV ya;obtain⟨b9,o9,uW,ay,hcl9⟩:=dH xr;rw[uW] at e9;simp only[Value.slice.injEq,Option.some.injEq,Addr.mk.injEq,and_true,true_and] at e9;obtain⟨⟨rfl,rfl⟩,rfl⟩:=e9;exact(lT gb 0 cap g.l k V hcl9 ay oE ur (yO kO (by decide))).mono fun e w' ⟨v',D,Y,h3⟩=>⟨v',D,zU Y hV.size,hV.trans (h3.mono hV.size)⟩
  have HNL:Hid ((g.l.take k++g.l.drop (k+1)).length<=1073741824):=by show _ <= _;simp only[yQ,List.length_take,List.length_drop];omega
  generalize g.l.take k++g.l.drop (k+1)=NL at aM uj HNL
  go_region_with (first|(go_at_call 37;refine(U pM _ (by first|exact hq|exact U qk)).mono ?_;rintro e w4 ⟨rfl,hq⟩;have y1:=(hq.cell (p:=(J cl 1)) hOX).trans c1;have r1:=(World.frozen?_of_block (a:=(J cl 1)) (hq.block cl hOX)).trans q1;have y9:=(hq.cell (p:=(J w.heap.size 9)) hWX).trans e9)|(go_at_call 38;refine(U aM _ hq).mono ?_;rintro e w5 ⟨v12,rfl,Q,hq⟩;have y1:=(hq.cell (p:=(J cl 1)) hOX).trans c1;have r1:=(World.frozen?_of_block (a:=(J cl 1)) (hq.block cl hOX)).trans q1;obtain⟨a5,c5,rfl⟩:=gf (zI Q (U HNL))))
  all_goals
   go_end0;refine U jh _ (.slice a5 NL.length c5) vi (eC (ij (U xv) hq) 1 [_]) ?_;rw[U uj,(U un).1,(U un).2.1,(U un).2.2];exact ms_list (zy (U xV) hq) (zU Q (U xV).base) (fun h=>absurd h (U bX))
structure R4 (C:Nat->Value->Prop) (p:Addr) (B0:World) (hR:List Od) (t:Od) (x:List Bool) (f:Nat->Value) (W:World):Prop where
 c:∀j,x[j]? = some true->C j (f j)
 bel:x[15]? = some false->Below B0.heap.size B0 W
 m0:x[1]? = some true->x[6]? = some false->ORow W B0.heap.size (f 1) []
 m2:x[6]? = some true->x[12]? = some false->ORow W B0.heap.size (f 6) hR
 m4:x[11]? = some true->x[12]? = some false->∃b,f 11 = .slice (some ⟨b,0,none⟩) 1 1/\b<W.heap.size/\W.rangeAt b 0 t.vs/\(x[1]? = some true->x[6]? = some false->(f 1).ownBlock≠some b)
 m5:x[12]? = some true->x[15]? = some false->ORow W B0.heap.size (f 12) (hR ++ [t])
 mz:x[15]? = some true->∃W0,(ORow W0 B0.heap.size (f 12) (hR ++ [t])/\Below B0.heap.size B0 W0)/\W=W0.setCell p (f 12)
def R4A (cs:(Nat->Value)->Act)(C:Nat->Value->Prop)(p:Addr)(B0:World)(hR:List Od)(t:Od)(x:List Bool)(zb:Act)(W:World):Prop:=∃f,zb=cs f/\R4 C p B0 hR t x f W
section
variable {C:Nat->Value->Prop} {p:Addr} {B0 W W':World} {hR:List Od} {t:Od} {x:List Bool} {f:Nat->Value}
theorem r4_grow (h:R4 C p B0 hR t x f W)(n:x[15]? = some false)(E:yn W W'):R4 C p B0 hR t x f W':=
 ⟨h.c,fun _=>(h.bel n).trans (E.mono (h.bel n).size),fun a b=>zt (h.m0 a b) E,fun a b=>zt (h.m2 a b) E,fun a b=>by
  obtain⟨b',D,Y,h4,h5⟩:=h.m4 a b;exact⟨b',D,yK Y E.size,zc h4 E Y,h5⟩,fun a b=>zt (h.m5 a b) E,fun a=>by rw[n] at a;cases a⟩
theorem gi (h:R4 C p B0 hR t x f W)(i:Nat)(v:Value)(hv:C i v)(hi:i≠1/\i≠6/\i≠11/\i≠12/\i≠15):R4 C p B0 hR t (x.set i true) (upd f i v) W:=by
 obtain⟨D,h6,jc,vT,jd⟩:=hi;refine⟨zC h.c hv,?_,?_,?_,?_,?_,?_⟩ <;> simp only[gq D,gq h6,gq jc,gq vT,gq jd,zk f v D.symm,zk f v h6.symm,zk f v jc.symm,zk f v vT.symm]
 ·exact h.bel
 ·exact h.m0
 ·exact h.m2
 ·exact h.m4
 ·exact h.m5
 ·exact h.mz
theorem r4_1 (h:R4 C p B0 hR t x f W)(n:x[15]? = some false)(hc:∀v,C 1 v):R4 C p B0 hR t (x.set 1 true) (upd f 1 (.slice (some (J W.heap.size 0)) 0 0)) (W.alloc (mq #[] 65)):=by
 have X:=r4_grow h n ((Below.refl W.heap.size W).alloc ya (mq #[] 65));refine⟨zC X.c (hc _),fun _=>X.bel n,?_,?_,?_,?_,?_⟩
 ·intro _ _;rw[zo];exact World.ownsRow_made W #[] 0 (h.bel n).size (by decide) rfl
 ·rw[gq (by decide),gq (by decide),zk _ _ (by decide)];exact X.m2
 ·intro aA kN;rw[gq (by decide)] at aA kN;obtain⟨b,D,Y,h4,h5⟩:=X.m4 aA kN;obtain⟨b',e1,e2,_⟩:=h.m4 aA kN;rw[D] at e1;simp only[Value.slice.injEq,Option.some.injEq,Addr.mk.injEq,and_true] at e1;subst e1;refine⟨b,by rw[zk _ _ (by decide)];exact D,Y,h4,fun _ _ e=>?_⟩;rw[zo] at e;simp[Value.ownBlock] at e;omega
 ·rw[gq (by decide),gq (by decide),zk _ _ (by decide)];exact X.m5
 ·intro e;rw[gq (by decide),n] at e;cases e
theorem r4_6 (h:R4 C p B0 hR t x f W)(n:x[15]? = some false)(cP:x[1]? = some true)(kM:x[6]? = some false)(kN:x[12]? = some false)(hc:∀v,C 6 v){v':Value}(Q:ORow W' B0.heap.size v' hR)(X:W.grownBy W' (f 1).ownBlock):R4 C p B0 hR t (x.set 6 true) (upd f 6 v') W':=by
 refine⟨zC h.c (hc _),fun _=>(h.bel n).grown X (h.bel n).size (fun k hk=>((h.m0 cP kM).lt k hk).1),?_,?_,?_,?_,?_⟩
 ·intro _ e;rw[gqs kM] at e;cases e
 ·intro _ _;rw[zo];exact Q
 ·intro aA _;rw[gq (by decide)] at aA;obtain⟨b,D,Y,h4,h5⟩:=h.m4 aA kN;refine⟨b,by rw[zk _ _ (by decide)];exact D,yK Y X.size,zr h4 X Y (fun e=>h5 cP kM e.symm),fun _ e=>?_⟩;rw[gqs kM] at e;cases e
 ·intro e;rw[gq (by decide),kN] at e;cases e
 ·intro e;rw[gq (by decide),n] at e;cases e
theorem r4_11 (h:R4 C p B0 hR t x f W)(n:x[15]? = some false)(aA:x[11]? = some false)(hc:∀v,C 11 v):R4 C p B0 hR t (x.set 11 true) (upd f 11 (.slice (some (J W.heap.size 0)) 1 1)) (W.alloc (Obj.cells t.vs.toArray 65)):=by
 have X:=r4_grow h n ((Below.refl W.heap.size W).alloc ya (Obj.cells t.vs.toArray 65));refine⟨zC X.c (hc _),fun _=>X.bel n,?_,?_,?_,?_,?_⟩
 ·rw[gq (by decide),gq (by decide),zk _ _ (by decide)];exact X.m0
 ·rw[gq (by decide),gq (by decide),zk _ _ (by decide)];exact X.m2
 ·intro _ _;refine⟨W.heap.size,zo _ _ _,by rw[zf];omega,zm W t.vs _,fun cP kM e=>?_⟩;rw[gq (by decide)] at cP kM;rw[zk _ _ (by decide)] at e;have:=((h.m0 cP kM).lt _ e).2;omega
 ·rw[gq (by decide),gq (by decide),zk _ _ (by decide)];exact X.m5
 ·intro e;rw[gq (by decide),n] at e;cases e
theorem r4_12 (h:R4 C p B0 hR t x f W)(n:x[15]? = some false)(kM:x[6]? = some true)(kN:x[12]? = some false)(hc:∀v,C 12 v){v':Value}(Q:ORow W' B0.heap.size v' (hR ++ [t]))(X:W.grownBy W' (f 6).ownBlock):R4 C p B0 hR t (x.set 12 true) (upd f 12 v') W':=by
 refine⟨zC h.c (hc _),fun _=>(h.bel n).grown X (h.bel n).size (fun k hk=>((h.m2 kM kN).lt k hk).1),?_,?_,?_,?_,?_⟩
 ·intro _ e;rw[gq (by decide),kM] at e;cases e
 ·intro _ e;rw[gqs kN] at e;cases e
 ·intro _ e;rw[gqs kN] at e;cases e
 ·intro _ _;rw[zo];exact Q
 ·intro e;rw[gq (by decide),n] at e;cases e
theorem r4_15 (h:R4 C p B0 hR t x f W)(n:x[15]? = some false)(vT:x[12]? = some true)(h6:x[6]? = some true)(hc:∀v,C 15 v):R4 C p B0 hR t (x.set 15 true) f (W.setCell p (f 12)):=by
 refine⟨fun j hj=>?_,?_,?_,?_,?_,?_,fun _=>⟨W,⟨h.m5 vT n,h.bel n⟩,rfl⟩⟩
 ·by_cases hjm:j=15
  ·subst hjm;exact hc _
  ·rw[gq (fun e=>hjm e.symm)] at hj;exact h.c j hj
 ·intro e;rw[gqs n] at e;cases e
 ·intro _ e;rw[gq (by decide),h6] at e;cases e
 ·intro _ e;rw[gq (by decide),vT] at e;cases e
 ·intro _ e;rw[gq (by decide),vT] at e;cases e
 ·intro _ e;rw[gqs n] at e;cases e
end
theorem take_4 {cl B:Nat}{vl vd va:Value}{g:Gr}{t:Od}{kd n0:Int}{dy l0:List Od}(ck F ct O cq ci:Int)(cp:Nat)(cg:ByteArray)(id xj qty xk xh:Int)(w:World)(h:MS cl B w vl vd va g t kd n0 dy l0)(hi:GI g)(hm:MR g t kd dy)(he:okE ⟨4,⟨ck,F,ct,O,cq,ci,cp,cg⟩,id,xj,qty,xk,xh⟩=true)(hr:zE g ⟨4,⟨ck,F,ct,O,cq,ci,cp,cg⟩,id,xj,qty,xk,xh⟩=0):Calls Tryz.prog 60 #[I cl 0,.agg (yv 4 ck F ct O cq ci cp cg id xj qty xk xh).toArray] w fun x w'=>TakK cl B vl.ownBlock va n0 l0 g t kd dy ⟨4,⟨ck,F,ct,O,cq,ci,cp,cg⟩,id,xj,qty,xk,xh⟩ w x w':=by
 generalize jX:vl.ownBlock=ob;have HOB:=Z jX;clear jX;have hsf:=sfl;have hO:=h.lt;have jl:=h.base;have jh:Hid (∀w' vO vi,KO cl ob w w'->MS cl B w' vO vi va (dQ g ⟨4,⟨ck,F,ct,O,cq,ci,cp,cg⟩,id,xj,qty,xk,xh⟩) (tkM g t ⟨4,⟨ck,F,ct,O,cq,ci,cp,cg⟩,id,xj,qty,xk,xh⟩) (kdM kd ⟨4,⟨ck,F,ct,O,cq,ci,cp,cg⟩,id,xj,qty,xk,xh⟩) n0 (dyM g dy ⟨4,⟨ck,F,ct,O,cq,ci,cp,cg⟩,id,xj,qty,xk,xh⟩) l0->TakK cl B ob va n0 l0 g t kd dy ⟨4,⟨ck,F,ct,O,cq,ci,cp,cg⟩,id,xj,qty,xk,xh⟩ w (.returned (.tuple #[])) w'):=fun w' vO vi D Y=>⟨rfl,D,vO,vi,Y⟩;obtain⟨h0,jN⟩:=rule45 (e:=⟨4,⟨ck,F,ct,O,cq,ci,cp,cg⟩,id,xj,qty,xk,xh⟩) (.inl rfl) hr;have qq:t=g.tk:=hm.same jN;have uj:Hid (dQ g ⟨4,⟨ck,F,ct,O,cq,ci,cp,cg⟩,id,xj,qty,xk,xh⟩ = { g with l:=g.l ++ [t],tk:={ g.tk with left:=0 } }):=by show _ = _;rw[step4 rfl];simp only[begG];rw[if_neg (by omega),qq]
 have un:Hid (tkM g t ⟨4,⟨ck,F,ct,O,cq,ci,cp,cg⟩,id,xj,qty,xk,xh⟩=zOd/\kdM kd ⟨4,⟨ck,F,ct,O,cq,ci,cp,cg⟩,id,xj,qty,xk,xh⟩=kd/\dyM g dy ⟨4,⟨ck,F,ct,O,cq,ci,cp,cg⟩,id,xj,qty,xk,xh⟩=dy):=⟨rfl,rfl,rfl⟩;have hbn:(g.bg != 0)=true:=by simp[h0]
 have bX:Hid (g.bg≠0):=by show _ ≠ _;omega
 have kO:=hi.len;obtain⟨la,lc,rfl⟩:=gf (zI h.row (yO kO (by decide)));obtain⟨i0,vk,uI,uG,uZ⟩:=info_parts Tryz.infoOrder;clear h0 jN qq;generalize TakK cl B ob va n0 l0 g t kd dy ⟨4,⟨ck,F,ct,O,cq,ci,cp,cg⟩,id,xj,qty,xk,xh⟩ w=C at jh |-;obtain⟨xD,HX⟩:=mu w (yv 4 ck F ct O cq ci cp cg id xj qty xk xh) 37;have HM:=Z (zy h xD);have HB:Hid (KO cl ob w (w.alloc (mq (yv 4 ck F ct O cq ci cp cg id xj qty xk xh).toArray 37))):=ko_of xD;clear h xD hi hm he hr;go_enter Tryz.func60,Tryz.ntmps60;refine ms fun mR HK=>?_;go_wp2_with fail;refine U HK _ _ ?_;clear HK;generalize (w.alloc (mq (yv 4 ck F ct O cq ci cp cg id xj qty xk xh).toArray 37))=W1 at HX HM HB |-;have c9:=A (U HM).box 9 rfl;have q9:=zd (U HM).box 9 (by show 9<13;decide);have xv:Hid (KO cl ob w (World.setCells W1 cl 9 [.bool true])):=eC (U HB) 9 _;have xV:Hid (MS cl B (World.setCells W1 cl 9 [.bool true]) (.slice la g.l.length lc) vd va g t kd n0 dy l0):=fu (U HM) 9 [.bool true] (by simp) (by simp[msV,hbn]) rfl (fun h=>absurd h (U bX));have e0:(World.setCells W1 cl 9 [.bool true]).cell? (J w.heap.size 0)=some (H 4):=A (dU (U HX) (et cl w.heap.size (by omega) _ 9 W1)) 0 rfl;clear hbn HX HM HB;refine ms fun mR HK=>?_;go_wp2_with fail;refine U HK _ _ ?_;clear HK;change Code.wp _ _ _ _ (World.setCells W1 cl 9 [.bool true]);generalize World.setCells W1 cl 9 [.bool true]=hg at xv xV e0 |-;clear c9 q9;go_wp2_with fail;refine zu (R4A (fun f=>{ tmps:=#[I cl 0,.agg (yv 4 ck F ct O cq ci cp cg id xj qty xk xh).toArray,M,I w.heap.size 0,M,I cl 0,I cl 0,I cl 9,I w.heap.size 0,H 4,.bool false,.bool false,M,M,M,M,M,M,M,M,M,M,M,M,M,M,M,M,M,M,M,M,M,M,M,.bool false,.bool false,M,M,M,M,M,M,M,M,M,M,M,M,M,M,M,M,M,M,M,M,M,M,M,M,M,M,.bool true,.bool true,f 0,f 1,f 2,f 3,f 4,f 5,f 6,f 7,f 8,f 9,f 10,f 11,f 12,f 13,f 14,M,M,M,M,M,M,M,M,M,M,M,M,M,M,M,M,M,M,M,M,M,M,M,M,M,M,M,M,M,M,M,M,M,M,M,M,M,M,M,M,M,M,M,M,M,M,M,M,M,M,M,M,M,M,M,M,M,M,M,M,M,M,M,M,M,M,M,M,M,M,M,M,M,M,M,M,M,M,M,M,M,M,M,M,M,M,M,M,M,M,M,M,M,M,M,M,M,M,M,M,M,M,M,M,M],defers:=[] }) (fun j v=>∀u,([some (I cl 0),none,some (I cl 0),some (I cl 0),some (I cl 1),some (.slice la g.l.length lc),none,some (I cl 0),some (I cl 0),some (I cl 2),some (.agg (yw t.id t.side t.ticks t.left t.life t.tag).toArray),none,none,some (I cl 0),some (I cl 1),none]:List (Option Value))[j]? = some (some u)->v=u) (J cl 1) hg g.l t) (by kernel_rfl) ?_ ?_ ?_
 ·have vN:∀j,(List.replicate 16 false)[j]? = some true->False:=fun j hj=>by rw[yJ] at hj;split at hj <;> simp at hj
  exact⟨fun _=>M,rfl,⟨fun j hj=>(vN j hj).elim,fun _=>⟨rfl,rfl,rfl,Nat.le_refl _,fun _ _=>rfl⟩,fun h=>(vN _ h).elim,fun h=>(vN _ h).elim,fun h=>(vN _ h).elim,fun h=>(vN _ h).elim,fun h=>(vN _ h).elim⟩⟩
 ·rintro x zb h2 ⟨f,rfl,L⟩ hx xS;have xq:=eE xS hx (acyc _ (by kernel_rfl));obtain⟨W0,⟨Q,xD⟩,eY⟩:=L.mz (xq 15 (by simp));have jS:=Z (zy (U xV) xD);have xF:=Z (ij (U xv) xD);have kD:=Z (zU Q (U xV).base);clear L xq xS hx xD Q;dsimp only;generalize f 0=v0,f 1=v1,f 2=v2,f 3=v3,f 4=v4,f 5=v5,f 6=v6,f 7=v7,f 8=v8,f 9=v9,f 10=v10,f 11=v11;generalize f 12=v12 at *;generalize f 13=v13,f 14=v14;have uS:Hid (MS cl B (W0.setCell (J cl 1) v12) v12 vd va { g with l:=g.l ++ [t] } t kd n0 dy l0):=ms_list (U jS) (U kD) (fun h=>absurd h (U bX));have ui:Hid (KO cl ob w (W0.setCell (J cl 1) v12)):=eC (U xF) 1 [v12];rw[<- eY] at uS ui;clear eY jS xF kD;have c2:=A (U uS).box 2 rfl;have q2:=zd (U uS).box 2 (by show 2<13;decide);have c3:=A (U uS).box 3 rfl;have q3:=zd (U uS).box 3 (by show 3<13;decide);have c4:=A (U uS).box 4 rfl;have q4:=zd (U uS).box 4 (by show 4<13;decide);have c5:=A (U uS).box 5 rfl;have q5:=zd (U uS).box 5 (by show 5<13;decide);have c6:=A (U uS).box 6 rfl;have q6:=zd (U uS).box 6 (by show 6<13;decide);have c7:=A (U uS).box 7 rfl;have q7:=zd (U uS).box 7 (by show 7<13;decide);go_wp2_with fail;go_end0;refine U jh _ v12 vd (eC (U ui) 2 (yw 0 0 0 0 0 ⟨#[]⟩)) ?_;rw[U uj,(U un).1,(U un).2.1,(U un).2.2];exact fu (U uS) 2 (yw 0 0 0 0 0 ⟨#[]⟩) (by simp) rfl rfl (fun h=>absurd h (U bX))
 ·rintro x zb V i op ⟨f,rfl,L⟩ xn hx Q xu R;have xw:=Z L
  match i,Q with
  | 0,Q|2,Q|7,Q =>
   cases Q;clear R L xn;go_simp;exact⟨upd f _ (I cl 0),by simp[upd],gi (U xw) _ _ (yi rfl) (by decide)⟩
  | 1,Q =>
   cases Q;have pI:x[15]? = some false:=zH xn 16 1 15 (by kernel_rfl) hx (by simp) xu;clear R L xn;go_simp;exact⟨upd f 1 (.slice (some (J V.heap.size 0)) 0 0),by simp[upd],r4_1 (U xw) pI (fun v u hu=>by cases hu)⟩
  | 3,Q =>
   cases Q;have g2:=L.c 2 (ye R 2 rfl) _ rfl;clear R L xn;go_simp;exact⟨upd f 3 (I cl 0),by simp[upd,g2],gi (U xw) 3 _ (yi rfl) (by decide)⟩
  | 4,Q =>
   cases Q;have g3:=L.c 3 (ye R 3 rfl) _ rfl;clear R L xn;go_simp;exact⟨upd f 4 (I cl 1),by simp[upd,g3],gi (U xw) 4 _ (yi rfl) (by decide)⟩
  | 5,Q =>
   cases Q;have g4:=L.c 4 (ye R 4 rfl) _ rfl;have pI:x[15]? = some false:=zH xn 16 5 15 (by kernel_rfl) hx (by simp) xu;have pO:=Z (zy (U xV) (L.bel pI));have z1:=A (U pO).box 1 rfl;clear R L xn;go_simp;exact⟨upd f 5 (.slice la g.l.length lc),by simp[upd,g4],gi (U xw) 5 _ (yi rfl) (by decide)⟩
  | 6,Q =>
   cases Q;have pI:x[15]? = some false:=zH xn 16 6 15 (by kernel_rfl) hx (by simp) xu;have k1:x[1]? = some true:=R ⟨1,.data⟩ (by simp) rfl;have g5:=L.c 5 (ye R 5 rfl) _ rfl;have k12:x[12]? = some false:=zH xn 16 6 12 (by kernel_rfl) hx (by simp) xu;have oi:=Z (L.m0 k1 xu);have vG:=L.bel pI;have HROW:=Z (zt (U xV).row vG)
   have HRDV:Hid (∀ad,la=some ad->∀j u,(g.l.flatMap Od.vs)[j]? = some u->V.cell? (ad.add j)=some u):=fun ad had=>by
    have h:=zI (U HROW) (yO kO (by decide));rw[had] at h;exact rd_src h
   clear R L xn;rw[if_pos (by rfl)];rcases oRow_sl (U HROW) with h|⟨ad,nn,cc,h⟩
   ·simp only[Value.slice.injEq] at h;have hL:g.l = []:=List.length_eq_zero_iff.1 h.2.1;refine lr (.tmp 66) (.tmp 70) 25 rfl hg.heap.size 65 i0 6 Tryz.underlying25 vk (f 1) 0 [] rfl (U oi) (by show f 5 = _;rw[g5,h.1,h.2.1,h.2.2]) ?_;exact⟨upd f 6 (f 1),rfl,r4_6 (U xw) pI k1 xu k12 (fun v u hu=>by cases hu) (by rw[hL];exact U oi) (yS _ _)⟩
   ·simp only[Value.slice.injEq] at h;refine wp_append_own V (.tmp 66) (.tmp 70) 25 rfl hg.heap.size 65 i0 _ 6 56 Tryz.underlying25 vk uI uG uZ rfl (by decide) (f 1) 0 [] rfl (U oi) ad g.l.length lc (g.l.flatMap Od.vs) (by show f 5 = _;rw[g5,h.1]) (by rw[zY Od.len]) (U HRDV ad h.1) (fM g.l) (by unfold maxLen;omega) (by omega) vG.size ?_;intro v' w' xY uR _;refine⟨upd f 6 v',rfl,r4_6 (U xw) pI k1 xu k12 (fun v u hu=>by cases hu) ?_ uR⟩;show w'.ownsRow _ _ _ _ g.l.length _;simpa using xY
  | 8,Q =>
   cases Q;have g7:=L.c 7 (ye R 7 rfl) _ rfl;clear R L xn;go_simp;exact⟨upd f 8 (I cl 0),by simp[upd,g7],gi (U xw) 8 _ (yi rfl) (by decide)⟩
  | 9,Q =>
   cases Q;have g8:=L.c 8 (ye R 8 rfl) _ rfl;clear R L xn;go_simp;exact⟨upd f 9 (I cl 2),by simp[upd,g8],gi (U xw) 9 _ (yi rfl) (by decide)⟩
  | 10,Q =>
   cases Q;have g9:=L.c 9 (ye R 9 rfl) _ rfl;have pI:x[15]? = some false:=zH xn 16 10 15 (by kernel_rfl) hx (by simp) xu;have pO:=Z (zy (U xV) (L.bel pI));have z2:=A (U pO).box 2 rfl;have z3:=A (U pO).box 3 rfl;have z4:=A (U pO).box 4 rfl;have z5:=A (U pO).box 5 rfl;have z6:=A (U pO).box 6 rfl;have z7:=A (U pO).box 7 rfl;clear R L xn;go_simp;exact⟨upd f 10 (.agg (yw t.id t.side t.ticks t.left t.life t.tag).toArray),by simp[upd,g9],gi (U xw) 10 _ (yi rfl) (by decide)⟩
  | 11,Q =>
   cases Q;have jL:=L.c 10 (ye R 10 rfl) _ rfl;have pI:x[15]? = some false:=zH xn 16 11 15 (by kernel_rfl) hx (by simp) xu;clear R L xn;go_simp;exact⟨upd f 11 (.slice (some (J V.heap.size 0)) 1 1),by simp[upd,jL],r4_11 (U xw) pI xu (fun v u hu=>by cases hu)⟩
  | 12,Q =>
   cases Q;have pI:x[15]? = some false:=zH xn 16 12 15 (by kernel_rfl) hx (by simp) xu;have k6:x[6]? = some true:=R ⟨6,.data⟩ (by simp) rfl;obtain⟨b4,jB,uw,xL,-⟩:=L.m4 (ye R 11 rfl) xu;have je:=Z (L.m2 k6 xu);have vG:=L.bel pI
   have qA:Hid (∀j u,t.vs[j]? = some u->V.cell? (((J b4 0):Addr).add j)=some u):=fun j u hu=>by
    have:=xL j u hu;rw[Addr.add_mid];exact this
   clear R L xn xL;rw[if_pos (by rfl)];refine wp_append_own V (.tmp 71) (.tmp 76) 25 rfl hg.heap.size 65 i0 _ 6 56 Tryz.underlying25 vk uI uG uZ rfl (by decide) (f 6) g.l.length (g.l.flatMap Od.vs) rfl (U je) (J b4 0) 1 1 t.vs (by show f 11 = _;exact jB) rfl (U qA) (one_od t) (by unfold maxLen;omega) (by omega) vG.size ?_;intro v' w' xY uR _;refine⟨upd f 12 v',rfl,r4_12 (U xw) pI k6 xu (fun v u hu=>by cases hu) ?_ uR⟩;show w'.ownsRow _ _ _ _ (g.l ++ [t]).length _;rw[yQ,List.flatMap_append];simpa using xY
  | 13,Q =>
   cases Q;have g0:=L.c 0 (ye R 0 rfl) _ rfl;clear R L xn;go_simp;exact⟨upd f 13 (I cl 0),by simp[upd,g0],gi (U xw) 13 _ (yi rfl) (by decide)⟩
  | 14,Q =>
   cases Q;have kI:=L.c 13 (ye R 13 rfl) _ rfl;clear R L xn;go_simp;exact⟨upd f 14 (I cl 1),by simp[upd,kI],gi (U xw) 14 _ (yi rfl) (by decide)⟩
  | 15,Q =>
   cases Q;have pf:=L.c 14 (ye R 14 rfl) _ rfl;have k12:x[12]? = some true:=R ⟨12,.data⟩ (by simp) rfl;have k6:x[6]? = some true:=yf xn 12 rfl k12 6 rfl;have qu:=Z (zy (U xV) (L.bel xu));have y1:=A (U qu).box 1 rfl;have q1:=zd (U qu).box 1 (by show 1<13;decide);obtain⟨ga,gc,vY⟩:=gf (zI (L.m5 k12 xu) (by simp;omega));generalize (g.l ++ [t]).length=gn at vY;clear R L xn;go_simp;refine⟨f,by simp[pf,vY],?_⟩;have:=r4_15 (U xw) xu k12 k6 (fun v u hu=>by cases hu);rw[vY] at this;exact this
  | i+16,Q=>simp at Q
theorem drop_getR {l:List Od}{k:Nat}{c:Od}(h:l[k]? = some c):l.drop k=c::l.drop (k+1):=by
 obtain⟨D,rfl⟩:=yH.1 h;exact xd D
theorem oRow_gr {W W':World}{B:Nat}{v:Value}{l:List Od}{G:Option Nat}(h:ORow W B v l)(X:W.grownBy W' G)(hn:∀k,v.ownBlock=some k->some k≠G):ORow W' B v l:=by
 rcases h.2 with⟨e,n⟩|⟨g,cap,xA,rfl,E,hh,r⟩
 ·exact⟨h.1,.inl ⟨e,n⟩⟩
 ·exact⟨h.1,.inr ⟨g,cap,xA,rfl,E,(X.block g (yZ.1 hh).1 (hn g rfl)).trans hh,r⟩⟩
theorem rd_grO {W W':World}{l:List Od}{v:Value}{G:Option Nat}(h:RdR Od.vs 6 W v l)(X:W.grownBy W' G)(hn:l ≠ []->∀b' off n c,v = .slice (some (J b' off)) n c->some b'≠G):RdR Od.vs 6 W' v l:=by
 obtain⟨a,cap,rfl,hl,hc⟩:=h;refine⟨a,cap,rfl,hl,fun xr=>?_⟩;obtain⟨b',off,rfl,E,xn⟩:=hc xr;have oB:=X.block b' E (hn xr b' off _ _ rfl);refine⟨b',off,rfl,yK E X.size,fun j c hj i u hi=>?_⟩;rw[yR (a:=(J b' (off+j*6+i))) oB];exact xn j c hj i u hi
theorem cells_of_made (w:World)(F:List Value)(t:TypeId)(j:Nat)(u:Value)(h:F[j]? = some u):((w.alloc (Obj.cells F.toArray t)).drew).cell? (((J w.heap.size 0):Addr).add j)=some u:=by
 have:=World.news_of_block (heap_alloc_new w (Obj.cells F.toArray t)) j u (by simpa using h);exact this
theorem ms_dayrow {cl B yc:Nat}{h2 W:World}{vl vm va v':Value}{g:Gr}{t:Od}{kd n0:Int}{m m' l0:List Od}(h:MS cl B h2 vl vm va g t kd n0 m l0)(X:h2.grownBy W vm.ownBlock)(hZ:∀k,vm.ownBlock=some k->yc<=k)(hOZ:cl<yc)(hLZ:∀k,vl.ownBlock=some k->k<yc)(Q:ORow W yc v' m')(hq:g.bg≠0)(hl:m'.length<=1073741824):MS cl B (W.setCell (J cl 10) v') vl v' va g t kd n0 m' l0:=by
 have hOB:=h.hO;have nO:some cl≠vm.ownBlock:=fun e=>by have:=hZ cl e.symm;omega
 have hd:m' ≠ []->∀b off n c,v' = .slice (some (J b off)) n c->b≠cl/\n<=c:=fun xr b off n c e=>by
  obtain⟨g',cap,e',hc,hB,-⟩:=fL Q xr;rw[e'] at e;simp only[Value.slice.injEq,Option.some.injEq,Addr.mk.injEq,and_true] at e;obtain⟨⟨rfl,-⟩,rfl,rfl⟩:=e;exact⟨by omega,hc⟩
 obtain⟨xA,hty⟩:=h.typ;refine⟨fi (dU h.box (X.block cl h.lt nO)) (by show 10<13;decide),gQ h.nl [v'] 10 W (oRow_gr h.row X (fun k hk e=>by have:=hZ k e.symm;have:=hLZ k hk;omega)),gO (us:=[v']) (o:=10) (zI Q hl) (fun xr b off n c e=>(hd xr b off n c e).1),gO (us:=[v']) (o:=10) (rd_grO h.ahd X (fun xr b' off n c e e2=>by have:=h.na xr b' off n c e;have:=hZ b' e2.symm;omega)) (fun xr b' off n c e=>by have:=h.na xr b' off n c e;omega),h.sla,iH [v'] 10 W ⟨xA,(X.block cl h.lt nO).trans hty⟩,h.hO,fun e=>absurd e hq,hd,h.na,fun xr b off n c e=>dyT_blk (W:=W) ?_ (et cl b (hd xr b off n c e).1 [v'] 10 W)⟩;obtain⟨g',cap,e',-,-,-⟩:=fL Q xr;rcases Q.2 with⟨D,_⟩|⟨q,cap2,cur2,D,_,bU,_⟩
 ·rw[D] at e;cases e
 ·rw[D] at e;simp only[Value.slice.injEq,Option.some.injEq,Addr.mk.injEq,and_true] at e;obtain⟨⟨rfl,-⟩,-⟩:=e;exact⟨cur2,bU⟩
section
variable {C:Nat->Value->Prop} {cl:Nat} {zb:World->Value->Prop} {B0 W W':World} {c0:Od} {x:List Bool} {f:Nat->Value}
end
theorem take_8 {cl B:Nat}{vl vd va:Value}{g:Gr}{t:Od}{kd n0:Int}{dy l0:List Od}(ck F ct O cq ci:Int)(cp:Nat)(cg:ByteArray)(id xj qty xk xh:Int)(w:World)(h:MS cl B w vl vd va g t kd n0 dy l0)(hi:GI g)(hm:MR g t kd dy)(he:okE ⟨8,⟨ck,F,ct,O,cq,ci,cp,cg⟩,id,xj,qty,xk,xh⟩=true)(hr:zE g ⟨8,⟨ck,F,ct,O,cq,ci,cp,cg⟩,id,xj,qty,xk,xh⟩=0):Calls Tryz.prog 60 #[I cl 0,.agg #[H 8,H ck,H F,H ct,H O,H cq,H ci,yj cp,yk cg,H id,H xj,H qty,H xk,H xh]] w fun x w'=>TakK cl B vl.ownBlock va n0 l0 g t kd dy ⟨8,⟨ck,F,ct,O,cq,ci,cp,cg⟩,id,xj,qty,xk,xh⟩ w x w':=by
 generalize jX:vl.ownBlock=ob;have HOB:=Z jX;clear jX;have hsf:=sfl;have hO:=h.lt;have jl:=h.base;have jh:Hid (∀w' vO vi,KO cl ob w w'->MS cl B w' vO vi va (dQ g ⟨8,⟨ck,F,ct,O,cq,ci,cp,cg⟩,id,xj,qty,xk,xh⟩) (tkM g t ⟨8,⟨ck,F,ct,O,cq,ci,cp,cg⟩,id,xj,qty,xk,xh⟩) (kdM kd ⟨8,⟨ck,F,ct,O,cq,ci,cp,cg⟩,id,xj,qty,xk,xh⟩) n0 (dyM g dy ⟨8,⟨ck,F,ct,O,cq,ci,cp,cg⟩,id,xj,qty,xk,xh⟩) l0->TakK cl B ob va n0 l0 g t kd dy ⟨8,⟨ck,F,ct,O,cq,ci,cp,cg⟩,id,xj,qty,xk,xh⟩ w (.returned (.tuple #[])) w'):=fun w' vO vi D Y=>⟨rfl,D,vO,vi,Y⟩;have h0:=rule8 (e:=⟨8,⟨ck,F,ct,O,cq,ci,cp,cg⟩,id,xj,qty,xk,xh⟩) rfl hr;have uj:Hid (dQ g ⟨8,⟨ck,F,ct,O,cq,ci,cp,cg⟩,id,xj,qty,xk,xh⟩ = { g with bg:=8 }):=by show _ = _;rw[step8 rfl];simp only[begG,if_pos h0]
 have un:Hid (tkM g t ⟨8,⟨ck,F,ct,O,cq,ci,cp,cg⟩,id,xj,qty,xk,xh⟩=t/\kdM kd ⟨8,⟨ck,F,ct,O,cq,ci,cp,cg⟩,id,xj,qty,xk,xh⟩=kd/\dyM g dy ⟨8,⟨ck,F,ct,O,cq,ci,cp,cg⟩,id,xj,qty,xk,xh⟩=g.l.filter isDy):=⟨rfl,rfl,rfl⟩;have hdy:dy = []:=by rw[hm.dy,if_neg (by omega)]
 have hvd:=(h.eqd h0).2.2;subst hdy;subst hvd;have kO:=hi.len;obtain⟨la,lc,rfl⟩:=gf (zI h.row (yO kO (by decide)));obtain⟨i0,vk,uI,uG,uZ⟩:=info_parts Tryz.infoOrder;clear h0;generalize TakK cl B ob va n0 l0 g t kd [] ⟨8,⟨ck,F,ct,O,cq,ci,cp,cg⟩,id,xj,qty,xk,xh⟩ w=C at jh |-;obtain⟨xD,HX⟩:=mu w [H 8,H ck,H F,H ct,H O,H cq,H ci,yj cp,yk cg,H id,H xj,H qty,H xk,H xh] 37;have HM:=Z (zy h xD);have HB:Hid (KO cl ob w (w.alloc (Obj.cells #[H 8,H ck,H F,H ct,H O,H cq,H ci,yj cp,yk cg,H id,H xj,H qty,H xk,H xh] 37))):=ko_of xD;clear h xD hi hm he hr;go_enter Tryz.func60,Tryz.ntmps60;refine ms fun mR HK=>?_;go_wp2_with fail;refine U HK _ _ ?_;clear HK;generalize (w.alloc (Obj.cells #[H 8,H ck,H F,H ct,H O,H cq,H ci,yj cp,yk cg,H id,H xj,H qty,H xk,H xh] 37))=W1 at HX HM HB |-;have c9:=A (U HM).box 9 rfl;have q9:=zd (U HM).box 9 (by show 9<13;decide);have xv:Hid (KO cl ob w (World.setCells W1 cl 9 [.bool true])):=eC (U HB) 9 _;have xV:Hid (MS cl B (World.setCells W1 cl 9 [.bool true]) (.slice la g.l.length lc) (.slice none 0 0) va { g with bg:=8 } t kd n0 [] l0):=fu (U HM) 9 [.bool true] (by simp) rfl rfl (fun h=>absurd (show(8:Int)=0 from h) (by decide));have e0:(World.setCells W1 cl 9 [.bool true]).cell? (J w.heap.size 0)=some (H 8):=A (dU (U HX) (et cl w.heap.size (by omega) _ 9 W1)) 0 rfl;clear HX HM HB;refine ms fun mR HK=>?_;go_wp2_with fail;refine U HK _ _ ?_;clear HK;change Code.wp _ _ _ _ (World.setCells W1 cl 9 [.bool true]);generalize World.setCells W1 cl 9 [.bool true]=hg at xv xV e0 |-;have HZ:Hid (∀b,(.slice la g.l.length lc:Value).ownBlock=some b->b<hg.heap.size):=fun b E=>((U xV).row.lt b E).2;have HOX:Hid (cl<hg.heap.size):=(U xV).lt;have HWX:Hid (w.heap.size<=hg.heap.size):=(U xv).size;clear c9 q9;go_wp2_with fail;go_loopw [4] (fun iv wr=>∃(k:Nat) (m:List Od) (vm:Value),k<=g.l.length/\iv=H k/\Hid (g.l.filter isDy=m++(g.l.drop k).filter isDy)/\m.length<=k/\Hid (MS cl B wr (.slice la g.l.length lc) vm va { g with bg:=8 } t kd n0 m l0)/\Hid (ORow wr hg.heap.size vm m)/\Hid (KO cl ob w wr)/\hg.heap.size<=wr.heap.size) (fun iv _=>g.l.length-(intOf iv).toNat)
 case atStart=>exact⟨0,[],_,Nat.zero_le _,rfl,rfl,Nat.le_refl _,xV,World.ownsRow_nil _ _ _ _,xv,Nat.le_refl _⟩
 case round =>
  obtain⟨k,m,vm,hk,rfl,uA,pn,HMk,HOk,HBk,km⟩:=hrel;clear xV xv e0;have c1:=A (U HMk).box 1 rfl
  by_cases xM:k<g.l.length
  ·obtain⟨c,vf⟩:∃c,g.l[k]? = some c:=⟨_,yI xM⟩
   have HP:Hid (g.l.filter isDy=m++(c::g.l.drop (k+1)).filter isDy):=by
    have:=U uA;rw[drop_getR vf] at this;exact this
   obtain⟨b,rfl,E,xn⟩:∃b,la=some (J b 0)/\b<wr.heap.size/\wr.rangeAt b (k*6) c.vs:=by
    obtain⟨a9,c9,e9,-,dH⟩:=zI (U HMk).row (yO kO (by decide));obtain⟨b9,o9,uW,ay,hcl9⟩:=dH (by intro h;rw[h] at vf;simp at vf);obtain⟨g9,p9,uE,-,-,-⟩:=fL (U HMk).row (by intro h;rw[h] at vf;simp at vf);simp only[Value.slice.injEq,true_and] at e9 uE;rw[e9.1,uW] at uE;simp only[Option.some.injEq,Addr.mk.injEq,and_true] at uE;obtain⟨⟨rfl,rfl⟩,-⟩:=uE;exact⟨b9,e9.1.trans uW,ay,fun i u hi=>by have:=hcl9 k c vf i u hi;rw[Nat.zero_add] at this;exact this⟩
   obtain⟨g0,g1,g2,g3,g4,g5⟩:=zF xn;have uL:(k:Int)<g.l.length:=by omega
   clear vf uA
   by_cases uk:c.life=1
   ·rw[uk] at g4
    have HP1:Hid (g.l.filter isDy=(m ++ [c])++(g.l.drop (k+1)).filter isDy):=by
     have:=U HP;rw[List.filter_cons_of_pos (by simp[isDy,uk])] at this;show _ = _;rw[this];simp
    have HID:=Z uk;clear HP xn uk;go_wp2_with fail;have hj10:=A (U HMk).box 10 rfl;have hf10:=zd (U HMk).box 10 (by show 10<13;decide);have hOk:=(U HMk).lt;have hZk:∀k,vm.ownBlock=some k->hg.heap.size<=k:=fun k hk=>((U HOk).lt k hk).1;have nO:some cl≠vm.ownBlock:=fun e=>by have:=hZk cl e.symm;have:=U HOX;omega
    have HZK:=Z hZk;have HVS:Hid (c.vs = [H c.id,H c.side,H c.ticks,H c.left,H 1,yk c.tag]):=by have:=HID;show _ = _;unfold Od.vs;rw[U HID]
    clear hZk
    go_region_law ((refine step_append_lies _ (by rfl) _ _ _ (by rfl) hg.heap.size 65 i0 _ 6 56 Tryz.underlying25 vk uI uG uZ rfl (by decide) _ m.length (m.flatMap Od.vs) (by rfl) (zt (U HOk) ((Below.refl wr.heap.size wr).alloc ya _).drew) (J wr.heap.size 0) 1 1 c.vs (by rfl) rfl (by rw[U HVS];exact cells_of_made _ _ _) (one_od c) (by decide) (by unfold maxLen;omega) (by omega) (by show hg.heap.size<=(wr.alloc _).heap.size;rw[zf];omega) (wr.heap.size+1) (by simp) ?_;intro gq cq w5 vh vI hat5 hlt5;have dO:=(vI.cell_far (J cl 10) (by show cl<(wr.alloc _).heap.size;rw[zf];omega) nO).trans ((((Below.refl wr.heap.size wr).alloc ya _).drew.cell (p:=(J cl 10)) (by show cl < _;omega)).trans hj10);have jD:=(vI.frozen_far (J cl 10) (by show cl<(wr.alloc _).heap.size;rw[zf];omega) nO).trans ((World.frozen?_of_block (a:=(J cl 10)) (((Below.refl wr.heap.size wr).alloc ya _).drew.block cl (by omega))).trans hf10)))
    all_goals
     have bR:yn wr ((wr.alloc (Obj.cells #[H c.id,H c.side,H c.ticks,H c.left,H 1,yk c.tag] 65)).drew):=((Below.refl wr.heap.size wr).alloc ya _).drew;have HMa:=zy (U HMk) bR;have aG:ORow w5 hg.heap.size (.slice (some (J gq 0)) (m.length+1) cq) (m ++ [c]):=by show World.ownsRow _ _ _ _ _ _ _;rw[yQ,List.flatMap_append];simpa using vh
     have uS:Hid (MS cl B (w5.setCell (J cl 10) (.slice (some (J gq 0)) (m.length+1) cq)) (.slice (some (J b 0)) g.l.length lc) (.slice (some (J gq 0)) (m.length+1) cq) va { g with bg:=8 } t kd n0 (m ++ [c]) l0):=ms_dayrow HMa vI (U HZK) (U HOX) (U HZ) aG (fun h=>absurd (show(8:Int)=0 from h) (by decide)) (by simp;omega);have nO2:some cl≠(Value.slice (some (J gq 0)) (m.length+1) cq).ownBlock:=fun e=>by have:=(aG.lt cl e.symm).1;have:=U HOX;omega
     have pw:Hid (ORow (w5.setCell (J cl 10) (.slice (some (J gq 0)) (m.length+1) cq)) hg.heap.size (.slice (some (J gq 0)) (m.length+1) cq) (m ++ [c])):=gQ nO2 [_] 10 w5 aG;have ui:Hid (KO cl ob w (w5.setCell (J cl 10) (.slice (some (J gq 0)) (m.length+1) cq))):=eC (ko_far (ij (U HBk) bR) vI (fun k hk=>by have:=U HZK k hk;have:=U HWX;omega)) 10 [_];have HS5:Hid (hg.heap.size<=(w5.setCell (J cl 10) (.slice (some (J gq 0)) (m.length+1) cq)).heap.size):=by have:=(dX w5 (J cl 10) (.slice (some (J gq 0)) (m.length+1) cq)).size;have:=vI.size;have:=bR.size;show _ <= _;omega
     clear vh vI hat5 hlt5 dO jD bR HMa aG nO2;go_wp2_with fail
     try dsimp only[H,I,J,M,yj,yk,yv,yw,yx,yp,yq,mq]
     go_roundw
     case rel=>exact⟨k+1,m ++ [c],.slice (some (J gq 0)) (m.length+1) cq,by omega,by go_num,HP1,by simp;omega,uS,pw,ui,U HS5⟩
     case measure=>simp[intOf];omega
   ·have HP1:Hid (g.l.filter isDy=m++(g.l.drop (k+1)).filter isDy):=by
     have:=U HP;rw[List.filter_cons_of_neg (by simp[isDy,uk])] at this;exact this
    clear HP;go_wp2_with fail
    try dsimp only[H,I,J,M,yj,yk,yv,yw,yx,yp,yq,mq]
    go_roundw
    case rel=>exact⟨k+1,m,vm,by omega,by go_num,HP1,by omega,HMk,HOk,HBk,km⟩
    case measure=>simp[intOf];omega
  ·have HE:Hid (g.l.filter isDy=m):=by
    have:=U uA;rw[xb (by omega)] at this;show _ = _;rw[this];simp
   have hge:¬ ((k:Int)<g.l.length):=by omega
   clear uA xM;go_wp2_with fail;go_end0;refine U jh _ (.slice la g.l.length lc) vm (U HBk) ?_;rw[U uj,(U un).1,(U un).2.1,(U un).2.2,U HE];exact U HMk
end Go.Proofs.YthhkapcbocgcoaaGreatDoor
