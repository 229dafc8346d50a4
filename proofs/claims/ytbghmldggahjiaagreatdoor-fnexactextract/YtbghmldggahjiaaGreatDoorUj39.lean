/-.-/
import Derived.Test.YtbghmldggahjiaaGreatDoorUj38
set_option linter.unusedVariables false
set_option maxHeartbeats 6400000
set_option maxRecDepth 100000
namespace Go.Proofs.YtbghmldggahjiaaGreatDoor
open Go.RowKit
def C7o (b off n cap i:Nat):Nat->Value->Prop
 | 1,v=>v = .slice (some (U b off)) n cap
 | 2,v=>v=H i
 | 3,v=>v = .slice (some (U b off)) i cap
 | 5,v=>v = .slice (some (U b off)) n cap
 | 6,v=>v=H i
 | 7,v=>v=H ((i:Int)+1)
 | 8,v=>∃ad c,v = .slice (some ad) (n-(i+1)) c/\(i+1<n->ad=(U b (off+(i+1)*6)))
 | _,_=>True
theorem l04Drop_any (b off cap:Nat)(l:List Od)(i:Nat)(w:World)(hc:∀j c,l[j]? = some c->w.rangeAt b (off+j*6) c.vs)(A:b<w.heap.size)(hil:i<l.length)(xC:l.length<=cap)(hn:l.length<=1000) :
  Calls Tryz.prog 124 #[.slice (some (U b off)) l.length cap,H i] w fun e w'=>∃v',e = .returned v'/\ORow w' w.heap.size v' (l.take i++l.drop (i+1))/\yn w w':=by
 obtain⟨i0,vA,uE,uw,uC⟩:=info_parts Tryz.infoOrder;have HC:=Q hc;clear hc;have hicp:i<=cap:=by omega
 have hi1:i+1<=l.length:=by omega
 have hi1':(i:Int)+1<=l.length:=by omega
 have jd:(i:Int)<l.length:=by omega
 have hige:(0:Int)<=i:=by omega
 have hlcp:(l.length:Int)<=cap:=by omega
 have h0i:(0:Int)<=(i:Int)+1:=by omega
 go_enter Tryz.func124,Tryz.ntmps124;go_wp2_with fail;refine iO (R7A (.slice none 0 0) w (C7o b off l.length cap i) (l.take i) (l.take i++l.drop (i+1)) (fun f=>{ tmps:=#[.slice (some (U b off)) l.length cap,H i,F,F,f 10,f 0,f 1,f 2,f 3,f 4,f 5,f 6,f 7,f 8,f 9],defers:=[] })) (by kernel_rfl) ?_ ?_ ?_
 ·exact⟨fun j=>if j=10 then .slice none 0 0 else F,rfl,⟨⟨rfl,rfl,rfl,Nat.le_refl _,fun _ _=>rfl⟩,fun j hj=>by rw[yI] at hj;split at hj <;> simp at hj,fun _=>rfl,by simp,by simp,by simp,by simp,by simp,by simp,by simp⟩⟩
 ·rintro x hb V ⟨f,rfl,hR⟩ hx xU;have xv:=eJ xU hx (acyc _ (by kernel_rfl));have k9:x[9]? = some true:=xv 9 (by simp);have k10:x[10]? = some true:=xv 10 (by simp);have HO9:=Q (hR.m9 k9);have uL:f 10=f 9:=hR.m10 k10;have xM:=Q hR.bel;simp only[uL];generalize f 9=v9 at HO9 |-;clear hR xv k9 k10 uL xU hx;go_wp2_with fail;go_ret;exact⟨_,rfl,Z HO9,Z xM⟩
 ·rintro x hb V i' o' ⟨f,rfl,hR⟩ hx K xJ I;have jD:=Q hR
  match i',K with
  | 0,K =>
   obtain rfl:=yb K;clear hR I;rw[if_pos (by rfl)];unfold Oper.wp;go_simp;exact⟨upd f 0 (.slice (some (U V.heap.size 0)) 0 0),by simp[upd],r7_0 (Z jD) xJ (fun _=>trivial)⟩
  | 1,K =>
   obtain rfl:=yb K;clear hR I;rw[if_pos (by rfl)];unfold Oper.wp;go_simp;exact⟨upd f 1 (.slice (some (U b off)) l.length cap),by simp[upd],eK (Z jD) 1 _ rfl (by decide) (by decide) (by decide) (by decide)⟩
  | 2,K =>
   obtain rfl:=yb K;clear hR I;rw[if_pos (by rfl)];unfold Oper.wp;go_simp;exact⟨upd f 2 (H i),by simp[upd],eK (Z jD) 2 _ rfl (by decide) (by decide) (by decide) (by decide)⟩
  | 3,K =>
   obtain rfl:=yb K;have g1:C7o b off l.length cap i 1 (f 1):=hR.c 1 (ye I 1 rfl);have g2:C7o b off l.length cap i 2 (f 2):=hR.c 2 (ye I 2 rfl);simp only[C7o] at g1 g2;clear hR I;rw[if_pos (by rfl)];unfold Oper.wp;go_simp;exact⟨upd f 3 (.slice (some (U b off)) i cap),by simp[upd,g1,g2],eK (Z jD) 3 _ rfl (by decide) (by decide) (by decide) (by decide)⟩
  | 4,K =>
   obtain rfl:=yb K;have g3:C7o b off l.length cap i 3 (f 3):=hR.c 3 (ye I 3 rfl);have k0:x[0]? = some true:=I ⟨0,.data⟩ (by simp) rfl;have HCV:Hid (∀j c,l[j]? = some c->V.rangeAt b (off+j*6) c.vs):=fun j c hj=>zd (Z HC j c hj) hR.bel A;simp only[C7o] at g3;clear hR I;rw[if_pos (by rfl)];refine wp_append_own V (.tmp 5) (.tmp 8) 39 rfl w.heap.size 98 i0 _ 6 56 Tryz.underlying39 vA uE uw uC rfl (by decide) (f 0) 0 [] rfl ((Z jD).m0 k0 xJ) (U b off) i cap ((l.take i).flatMap Od.vs) g3 (by rw[ef Od.len,List.length_take];congr 1;omega) (by simpa using ib (W:=V) (g:=b) (off:=off) (l:=l) (Z HCV) 0 i) (fQ _) (by unfold maxLen;omega) (by omega) (Z jD).bel.size ?_;intro v' w' xL vY _;refine⟨upd f 4 v',rfl,r7_4 (Z jD) k0 xJ (fun _=>trivial) ?_ vY⟩;have xD:(l.take i).length=0+i:=by rw[List.length_take];omega
   show w'.ownsRow _ _ _ _ (l.take i).length _;rw[xD];simpa using xL
  | 5,K =>
   obtain rfl:=yb K;clear hR I;rw[if_pos (by rfl)];unfold Oper.wp;go_simp;exact⟨upd f 5 (.slice (some (U b off)) l.length cap),by simp[upd],eK (Z jD) 5 _ rfl (by decide) (by decide) (by decide) (by decide)⟩
  | 6,K =>
   obtain rfl:=yb K;clear hR I;rw[if_pos (by rfl)];unfold Oper.wp;go_simp;exact⟨upd f 6 (H i),by simp[upd],eK (Z jD) 6 _ rfl (by decide) (by decide) (by decide) (by decide)⟩
  | 7,K =>
   obtain rfl:=yb K;have g6:C7o b off l.length cap i 6 (f 6):=hR.c 6 (ye I 6 rfl);simp only[C7o] at g6;have hwr:IntKind.i64.wrap ((i:Int)+1)=(i:Int)+1:=by rw[IntKind.wrap_i64];omega
   clear hR I;rw[if_pos (by rfl)];unfold Oper.wp;go_simp;exact⟨upd f 7 (H ((i:Int)+1)),by simp[upd,g6],eK (Z jD) 7 _ rfl (by decide) (by decide) (by decide) (by decide)⟩
  | 8,K =>
   obtain rfl:=yb K;have g5:C7o b off l.length cap i 5 (f 5):=hR.c 5 (ye I 5 rfl);have g7:C7o b off l.length cap i 7 (f 7):=hR.c 7 (ye I 7 rfl);simp only[C7o] at g5 g7;clear hR I
   by_cases hcp:cap=i+1
   ·subst hcp;rw[if_pos (by rfl)];unfold Oper.wp;go_simp;exact⟨upd f 8 (.slice (some (U b off)) (l.length-(i+1)) 0),by simp[upd,g5,g7];omega,eK (Z jD) 8 _ ⟨_,_,rfl,fun h=>by omega⟩ (by decide) (by decide) (by decide) (by decide)⟩
   ·rw[if_pos (by rfl)];unfold Oper.wp;go_simp;exact⟨upd f 8 (.slice (some (U b (off+(i+1)*6))) (l.length-(i+1)) (cap-(i+1))),by simp[upd,g5,g7],eK (Z jD) 8 _ ⟨_,_,rfl,fun h=>rfl⟩ (by decide) (by decide) (by decide) (by decide)⟩
  | 9,K =>
   obtain rfl:=yb K;have g8:C7o b off l.length cap i 8 (f 8):=hR.c 8 (ye I 8 rfl);have k4:x[4]? = some true:=I ⟨4,.data⟩ (by simp) rfl;have HCV:Hid (∀j c,l[j]? = some c->V.rangeAt b (off+j*6) c.vs):=fun j c hj=>zd (Z HC j c hj) hR.bel A;obtain⟨ad8,c8,g8,had⟩:=g8;clear hR I
   have hsrc8:∀j u,((l.drop (i+1)).flatMap Od.vs)[j]? = some u->V.cell? (ad8.add j)=some u:=by
    intro j u hu
    by_cases xH:i+1<l.length
    ·rw[had xH];have:=ib (W:=V) (g:=b) (off:=off) (l:=l) (Z HCV) (i+1) (l.length-(i+1)) j u (by rw[yZ (by simp)];exact hu);simpa using this
    ·rw[xa (by omega)] at hu;simp at hu
   rw[if_pos (by rfl)];refine wp_append_own V (.tmp 9) (.tmp 13) 39 rfl w.heap.size 98 i0 _ 6 56 Tryz.underlying39 vA uE uw uC rfl (by decide) (f 4) (l.take i).length ((l.take i).flatMap Od.vs) rfl ((Z jD).m4 k4 xJ) ad8 (l.length-(i+1)) c8 ((l.drop (i+1)).flatMap Od.vs) g8 (by rw[ef Od.len,List.length_drop]) hsrc8 (fQ _) (by unfold maxLen;rw[List.length_take];omega) (by rw[List.length_take];omega) (Z jD).bel.size ?_;intro v' w' xL vY _;refine⟨upd f 9 v',rfl,r7_9 (Z jD) k4 xJ (fun _=>trivial) ?_ vY⟩;show w'.ownsRow _ _ _ _ (l.take i++l.drop (i+1)).length _;rw[yP,List.length_drop,List.flatMap_append];exact xL
  | 10,K =>
   obtain rfl:=yb K
   have hA:∀j,j<10->x[j]? = some true:=fun j hj=>I ⟨j,.phase⟩ (by
    match j,hj with
    | 0,_=>simp
    | 1,_=>simp
    | 2,_=>simp
    | 3,_=>simp
    | 4,_=>simp
    | 5,_=>simp
    | 6,_=>simp
    | 7,_=>simp
    | 8,_=>simp
    | 9,_=>simp
    | n+10,h=>omega) rfl
   clear hR I;rw[if_pos (by rfl)];unfold Oper.wp;go_simp;exact⟨upd f 10 (f 9),by simp[upd],r7_10 (Z jD) hA xJ (fun _=>trivial)⟩
  | n+11,K=>simp at K
theorem ms_list {O B:Nat}{W:World}{vl qd vd va:Value}{g:Gr}{t:Od}{kd n0:Int}{dy l0 l':List Od}(h:MS O B W vl vd va g t kd n0 dy l0)(K:ORow W B qd l')(hq:g.bg=0->n0=g.nx/\l0=l'/\vd = .slice none 0 0):MS O B (W.setCell (U O 1) qd) qd vd va { g with l:=l' } t kd n0 dy l0:=
 ⟨eh h.box (by show 1<13;decide),dT K (zy K h.typ (by decide)) 1 qd,gM (us:=[qd]) (o:=1) h.days h.nd,gM (us:=[qd]) (o:=1) h.ahd (fun xy b' off n c e=>by have:=h.na xy b' off n c e;have:=h.hO;omega),h.sla,gZ [qd] 1 W h.typ,h.hO,hq,h.ndc,h.na,fun hd b off n c e=>dyT_blk (h.dyt hd b off n c e) (ep O b (h.nd hd b off n c e) [qd] 1 W)⟩
theorem take_6 {O B:Nat}{vl vd va:Value}{g:Gr}{t:Od}{kd n0:Int}{dy l0:List Od}(ck cs ct cl cq ci:Int)(cp:Nat)(cg:ByteArray)(id xh qty xi xg:Int)(w:World)(h:MS O B w vl vd va g t kd n0 dy l0)(hi:GI g)(hm:MR g t kd dy)(he:okE ⟨6,⟨ck,cs,ct,cl,cq,ci,cp,cg⟩,id,xh,qty,xi,xg⟩=true)(hr:zx g ⟨6,⟨ck,cs,ct,cl,cq,ci,cp,cg⟩,id,xh,qty,xi,xg⟩=0):Calls Tryz.prog 85 #[xj O 0,.agg (yv 6 ck cs ct cl cq ci cp cg id xh qty xi xg).toArray] w fun x w'=>TakK O B vl.ownBlock va n0 l0 g t kd dy ⟨6,⟨ck,cs,ct,cl,cq,ci,cp,cg⟩,id,xh,qty,xi,xg⟩ w x w':=by
 generalize hob:vl.ownBlock=ob;have HOB:=Q hob;clear hob;have hsf:=sfl;have hO:=h.lt;have jA:=h.base;have jF:Hid (∀w' qd vw,KO O ob w w'->MS O B w' qd vw va (dK g ⟨6,⟨ck,cs,ct,cl,cq,ci,cp,cg⟩,id,xh,qty,xi,xg⟩) (tkM g t ⟨6,⟨ck,cs,ct,cl,cq,ci,cp,cg⟩,id,xh,qty,xi,xg⟩) (kdM kd ⟨6,⟨ck,cs,ct,cl,cq,ci,cp,cg⟩,id,xh,qty,xi,xg⟩) n0 (dyM g dy ⟨6,⟨ck,cs,ct,cl,cq,ci,cp,cg⟩,id,xh,qty,xi,xg⟩) l0->TakK O B ob va n0 l0 g t kd dy ⟨6,⟨ck,cs,ct,cl,cq,ci,cp,cg⟩,id,xh,qty,xi,xg⟩ w (.returned (.tuple #[])) w'):=fun w' qd vw D E=>⟨rfl,D,qd,vw,E⟩;obtain⟨h0,k,o,uJ,vC,-,hqo⟩:=rule6 (e:=⟨6,⟨ck,cs,ct,cl,cq,ci,cp,cg⟩,id,xh,qty,xi,xg⟩) rfl hr;simp only at uJ hqo;have ua:Hid (dK g ⟨6,⟨ck,cs,ct,cl,cq,ci,cp,cg⟩,id,xh,qty,xi,xg⟩ = { g with l:=g.l.take k++g.l.drop (k+1),bg:=6 }):=by show _ = _;rw[step6 rfl];simp only[begG,if_pos h0,fi uJ vC];rw[dL,if_pos hqo.symm]
 have ue:Hid (tkM g t ⟨6,⟨ck,cs,ct,cl,cq,ci,cp,cg⟩,id,xh,qty,xi,xg⟩=t/\kdM kd ⟨6,⟨ck,cs,ct,cl,cq,ci,cp,cg⟩,id,xh,qty,xi,xg⟩=kd/\dyM g dy ⟨6,⟨ck,cs,ct,cl,cq,ci,cp,cg⟩,id,xh,qty,xi,xg⟩=dy):=⟨rfl,rfl,rfl⟩;have xy:g.l ≠ []:=by intro h;rw[h] at vC;simp at vC
 have pg:=(yG.1 vC).1;obtain⟨gb,cap,rfl,xC,hBg,hgw⟩:=fM h.row xy;have oo:=hi.len;have kb:=Q uJ;clear h0 uJ vC hqo;generalize TakK O B ob va n0 l0 g t kd dy ⟨6,⟨ck,cs,ct,cl,cq,ci,cp,cg⟩,id,xh,qty,xi,xg⟩ w=C at jF |-;obtain⟨xA,HX⟩:=lY w (yv 6 ck cs ct cl cq ci cp cg id xh qty xi xg) 89;have HM:=Q (zv h xA);have HB:Hid (KO O ob w (w.alloc (J (yv 6 ck cs ct cl cq ci cp cg id xh qty xi xg).toArray 89))):=ko_of xA;clear h xA hi hm he hr;go_enter Tryz.func85,Tryz.ntmps85;refine lX fun ho HK=>?_;go_wp2_with fail;refine Z HK _ _ ?_;clear HK;generalize (w.alloc (J (yv 6 ck cs ct cl cq ci cp cg id xh qty xi xg).toArray 89))=W1 at HX HM HB |-;have c9:=Y (Z HM).box 9 rfl;have q9:=zc (Z HM).box 9 (by show 9<13;decide);have xq:Hid (KO O ob w (World.setCells W1 O 9 [.bool true])):=et (Z HB) 9 _;have xT:Hid (MS O B (World.setCells W1 O 9 [.bool true]) (.slice (some (U gb 0)) g.l.length cap) vd va { g with bg:=6 } t kd n0 dy l0):=eS (Z HM) 9 [.bool true] (by simp) rfl rfl (fun h=>absurd (show(6:Int)=0 from h) (by decide));have xF:Hid (Bx (World.setCells W1 O 9 [.bool true]) w.heap.size (yv 6 ck cs ct cl cq ci cp cg id xh qty xi xg)):=zQ (Z HX) (ep O w.heap.size (by omega) _ 9 W1);clear HX HM HB;refine lX fun ho HK=>?_;go_wp2_with fail;refine Z HK _ _ ?_;clear HK;change Code.wp _ _ _ _ (World.setCells W1 O 9 [.bool true]);generalize World.setCells W1 O 9 [.bool true]=hk at xq xT xF |-;have uU:Hid (RdR Od.vs 6 hk (.slice (some (U gb 0)) g.l.length cap) g.l):=zP (Z xT).row (yN oo (by decide));have e0:=Y (Z xF) 0 rfl;clear c9 q9;go_wp2_with fail;have vV:Hid (yn hk hk.drew):=(Below.refl _ _).drew;have hOX:=(Z xT).lt;have hWX:w.heap.size<hk.heap.size:=yK _ _ e0;have c1:=Y (Z xT).box 1 rfl;have q1:=zc (Z xT).box 1 (by show 1<13;decide);have e9:=Y (Z xF) 9 rfl;have bK:Hid (∀V,yn hk V->Calls Tryz.prog 123 #[.slice (some (U gb 0)) g.l.length cap,H id] V fun e w'=>e = .returned (H k)/\yn hk w'):=fun V hV=>(gU _ g.l id V (zq (Z uU) hV ya)).mono fun e w' ⟨D,E⟩=>⟨by rw[D,Z kb],hV.trans (E.mono hV.size)⟩
 have HDR:Hid (∀V,yn hk V->Calls Tryz.prog 124 #[.slice (some (U gb 0)) g.l.length cap,H k] V fun e w'=>∃v',e = .returned v'/\ORow w' hk.heap.size v' (g.l.take k++g.l.drop (k+1))/\yn hk w'):=fun V hV=>by
  obtain⟨a9,c9,e9,-,dm⟩:=zq (Z uU) hV ya;obtain⟨b9,o9,uL,jk,hcl9⟩:=dm xy;rw[uL] at e9;simp only[Value.slice.injEq,Option.some.injEq,Addr.mk.injEq,and_true,true_and] at e9;obtain⟨⟨rfl,rfl⟩,rfl⟩:=e9;exact(l04Drop_any gb 0 cap g.l k V hcl9 jk pg xC (yN oo (by decide))).mono fun e w' ⟨v',D,E,h3⟩=>⟨v',D,ex E hV.size,hV.trans (h3.mono hV.size)⟩
 have HNL:Hid ((g.l.take k++g.l.drop (k+1)).length<=1073741824):=by show _ <= _;simp only[yP,List.length_take,List.length_drop];omega
 generalize g.l.take k++g.l.drop (k+1)=NL at HDR ua HNL
 go_region_with (first|(go_at_call 123;refine(Z bK _ (by first|exact hq|exact Z vV)).mono ?_;rintro e w4 ⟨rfl,hq⟩;have y1:=(hq.cell (p:=(U O 1)) hOX).trans c1;have r1:=(World.frozen?_of_block (a:=(U O 1)) (hq.block O hOX)).trans q1;have y9:=(hq.cell (p:=(U w.heap.size 9)) hWX).trans e9)|(go_at_call 124;refine(Z HDR _ hq).mono ?_;rintro e w5 ⟨v12,rfl,K,hq⟩;have y1:=(hq.cell (p:=(U O 1)) hOX).trans c1;have r1:=(World.frozen?_of_block (a:=(U O 1)) (hq.block O hOX)).trans q1;obtain⟨a5,c5,rfl⟩:=gA (zP K (Z HNL))))
 all_goals
  go_end0;refine Z jF _ (.slice a5 NL.length c5) vd (et (ic (Z xq) hq) 1 [_]) ?_;rw[Z ua,(Z ue).1,(Z ue).2.1,(Z ue).2.2];exact ms_list (zv (Z xT) hq) (ex K (Z xT).base) (fun h=>absurd (show(6:Int)=0 from h) (by decide))
structure R4 (C:Nat->Value->Prop) (p:Addr) (B0:World) (L:List Od) (t:Od) (x:List Bool) (f:Nat->Value) (W:World):Prop where
 c:∀j,x[j]? = some true->C j (f j)
 bel:x[15]? = some false->Below B0.heap.size B0 W
 m0:x[1]? = some true->x[6]? = some false->ORow W B0.heap.size (f 1) []
 m2:x[6]? = some true->x[12]? = some false->ORow W B0.heap.size (f 6) L
 m4:x[11]? = some true->x[12]? = some false->∃b,f 11 = .slice (some ⟨b,0,none⟩) 1 1/\b<W.heap.size/\W.rangeAt b 0 t.vs/\(x[1]? = some true->x[6]? = some false->(f 1).ownBlock≠some b)
 m5:x[12]? = some true->x[15]? = some false->ORow W B0.heap.size (f 12) (L ++ [t])
 mz:x[15]? = some true->∃W0,(ORow W0 B0.heap.size (f 12) (L ++ [t])/\Below B0.heap.size B0 W0)/\W=W0.setCell p (f 12)
def R4A (yl:(Nat->Value)->Act)(C:Nat->Value->Prop)(p:Addr)(B0:World)(L:List Od)(t:Od)(x:List Bool)(hb:Act)(W:World):Prop:=∃f,hb=yl f/\R4 C p B0 L t x f W
section
variable {C:Nat->Value->Prop} {p:Addr} {B0 W W':World} {L:List Od} {t:Od} {x:List Bool} {f:Nat->Value}
theorem r4_grow (h:R4 C p B0 L t x f W)(n:x[15]? = some false)(A:yn W W'):R4 C p B0 L t x f W':=
 ⟨h.c,fun _=>(h.bel n).trans (A.mono (h.bel n).size),fun a b=>zK (h.m0 a b) A,fun a b=>zK (h.m2 a b) A,fun a b=>by
  obtain⟨b',D,E,h4,h5⟩:=h.m4 a b;exact⟨b',D,yJ E A.size,zd h4 A E,h5⟩,fun a b=>zK (h.m5 a b) A,fun a=>by rw[n] at a;cases a⟩
theorem fT (h:R4 C p B0 L t x f W)(i:Nat)(v:Value)(hv:C i v)(hi:i≠1/\i≠6/\i≠11/\i≠12/\i≠15):R4 C p B0 L t (x.set i true) (upd f i v) W:=by
 obtain⟨D,h6,jz,qv,jJ⟩:=hi;refine⟨zD h.c hv,?_,?_,?_,?_,?_,?_⟩ <;> simp only[gq D,gq h6,gq jz,gq qv,gq jJ,zn f v D.symm,zn f v h6.symm,zn f v jz.symm,zn f v qv.symm]
 ·exact h.bel
 ·exact h.m0
 ·exact h.m2
 ·exact h.m4
 ·exact h.m5
 ·exact h.mz
theorem r4_1 (h:R4 C p B0 L t x f W)(n:x[15]? = some false)(hc:∀v,C 1 v):R4 C p B0 L t (x.set 1 true) (upd f 1 (.slice (some (U W.heap.size 0)) 0 0)) (W.alloc (J #[] 98)):=by
 have M:=r4_grow h n ((Below.refl W.heap.size W).alloc ya (J #[] 98));refine⟨zD M.c (hc _),fun _=>M.bel n,?_,?_,?_,?_,?_⟩
 ·intro _ _;rw[zr];exact World.ownsRow_made W #[] 0 (h.bel n).size (by decide) rfl
 ·rw[gq (by decide),gq (by decide),zn _ _ (by decide)];exact M.m2
 ·intro hh4 hh5;rw[gq (by decide)] at hh4 hh5;obtain⟨b,D,E,h4,h5⟩:=M.m4 hh4 hh5;obtain⟨b',e1,e2,_⟩:=h.m4 hh4 hh5;rw[D] at e1;simp only[Value.slice.injEq,Option.some.injEq,Addr.mk.injEq,and_true] at e1;subst e1;refine⟨b,by rw[zn _ _ (by decide)];exact D,E,h4,fun _ _ e=>?_⟩;rw[zr] at e;simp[Value.ownBlock] at e;omega
 ·rw[gq (by decide),gq (by decide),zn _ _ (by decide)];exact M.m5
 ·intro e;rw[gq (by decide),n] at e;cases e
theorem r4_6 (h:R4 C p B0 L t x f W)(n:x[15]? = some false)(hh0:x[1]? = some true)(hh2:x[6]? = some false)(hh5:x[12]? = some false)(hc:∀v,C 6 v){v':Value}(K:ORow W' B0.heap.size v' L)(M:W.grownBy W' (f 1).ownBlock):R4 C p B0 L t (x.set 6 true) (upd f 6 v') W':=by
 refine⟨zD h.c (hc _),fun _=>(h.bel n).grown M (h.bel n).size (fun k X=>((h.m0 hh0 hh2).lt k X).1),?_,?_,?_,?_,?_⟩
 ·intro _ e;rw[gqs hh2] at e;cases e
 ·intro _ _;rw[zr];exact K
 ·intro hh4 _;rw[gq (by decide)] at hh4;obtain⟨b,D,E,h4,h5⟩:=h.m4 hh4 hh5;refine⟨b,by rw[zn _ _ (by decide)];exact D,yJ E M.size,zA h4 M E (fun e=>h5 hh0 hh2 e.symm),fun _ e=>?_⟩;rw[gqs hh2] at e;cases e
 ·intro e;rw[gq (by decide),hh5] at e;cases e
 ·intro e;rw[gq (by decide),n] at e;cases e
theorem r4_11 (h:R4 C p B0 L t x f W)(n:x[15]? = some false)(hh4:x[11]? = some false)(hc:∀v,C 11 v):R4 C p B0 L t (x.set 11 true) (upd f 11 (.slice (some (U W.heap.size 0)) 1 1)) (W.alloc (Obj.cells t.vs.toArray 98)):=by
 have M:=r4_grow h n ((Below.refl W.heap.size W).alloc ya (Obj.cells t.vs.toArray 98));refine⟨zD M.c (hc _),fun _=>M.bel n,?_,?_,?_,?_,?_⟩
 ·rw[gq (by decide),gq (by decide),zn _ _ (by decide)];exact M.m0
 ·rw[gq (by decide),gq (by decide),zn _ _ (by decide)];exact M.m2
 ·intro _ _;refine⟨W.heap.size,zr _ _ _,by rw[zh];omega,zo W t.vs _,fun hh0 hh2 e=>?_⟩;rw[gq (by decide)] at hh0 hh2;rw[zn _ _ (by decide)] at e;have:=((h.m0 hh0 hh2).lt _ e).2;omega
 ·rw[gq (by decide),gq (by decide),zn _ _ (by decide)];exact M.m5
 ·intro e;rw[gq (by decide),n] at e;cases e
theorem r4_12 (h:R4 C p B0 L t x f W)(n:x[15]? = some false)(hh2:x[6]? = some true)(hh5:x[12]? = some false)(hc:∀v,C 12 v){v':Value}(K:ORow W' B0.heap.size v' (L ++ [t]))(M:W.grownBy W' (f 6).ownBlock):R4 C p B0 L t (x.set 12 true) (upd f 12 v') W':=by
 refine⟨zD h.c (hc _),fun _=>(h.bel n).grown M (h.bel n).size (fun k X=>((h.m2 hh2 hh5).lt k X).1),?_,?_,?_,?_,?_⟩
 ·intro _ e;rw[gq (by decide),hh2] at e;cases e
 ·intro _ e;rw[gqs hh5] at e;cases e
 ·intro _ e;rw[gqs hh5] at e;cases e
 ·intro _ _;rw[zr];exact K
 ·intro e;rw[gq (by decide),n] at e;cases e
theorem r4_15 (h:R4 C p B0 L t x f W)(n:x[15]? = some false)(qv:x[12]? = some true)(h6:x[6]? = some true)(hc:∀v,C 15 v):R4 C p B0 L t (x.set 15 true) f (W.setCell p (f 12)):=by
 refine⟨fun j hj=>?_,?_,?_,?_,?_,?_,fun _=>⟨W,⟨h.m5 qv n,h.bel n⟩,rfl⟩⟩
 ·by_cases hjm:j=15
  ·subst hjm;exact hc _
  ·rw[gq (fun e=>hjm e.symm)] at hj;exact h.c j hj
 ·intro e;rw[gqs n] at e;cases e
 ·intro _ e;rw[gq (by decide),h6] at e;cases e
 ·intro _ e;rw[gq (by decide),qv] at e;cases e
 ·intro _ e;rw[gq (by decide),qv] at e;cases e
 ·intro _ e;rw[gqs n] at e;cases e
end
theorem take_4 {O B:Nat}{vl vd va:Value}{g:Gr}{t:Od}{kd n0:Int}{dy l0:List Od}(ck cs ct cl cq ci:Int)(cp:Nat)(cg:ByteArray)(id xh qty xi xg:Int)(w:World)(h:MS O B w vl vd va g t kd n0 dy l0)(hi:GI g)(hm:MR g t kd dy)(he:okE ⟨4,⟨ck,cs,ct,cl,cq,ci,cp,cg⟩,id,xh,qty,xi,xg⟩=true)(hr:zx g ⟨4,⟨ck,cs,ct,cl,cq,ci,cp,cg⟩,id,xh,qty,xi,xg⟩=0):Calls Tryz.prog 85 #[xj O 0,.agg (yv 4 ck cs ct cl cq ci cp cg id xh qty xi xg).toArray] w fun x w'=>TakK O B vl.ownBlock va n0 l0 g t kd dy ⟨4,⟨ck,cs,ct,cl,cq,ci,cp,cg⟩,id,xh,qty,xi,xg⟩ w x w':=by
 generalize hob:vl.ownBlock=ob;have HOB:=Q hob;clear hob;have hsf:=sfl;have hO:=h.lt;have jA:=h.base;have jF:Hid (∀w' qd vw,KO O ob w w'->MS O B w' qd vw va (dK g ⟨4,⟨ck,cs,ct,cl,cq,ci,cp,cg⟩,id,xh,qty,xi,xg⟩) (tkM g t ⟨4,⟨ck,cs,ct,cl,cq,ci,cp,cg⟩,id,xh,qty,xi,xg⟩) (kdM kd ⟨4,⟨ck,cs,ct,cl,cq,ci,cp,cg⟩,id,xh,qty,xi,xg⟩) n0 (dyM g dy ⟨4,⟨ck,cs,ct,cl,cq,ci,cp,cg⟩,id,xh,qty,xi,xg⟩) l0->TakK O B ob va n0 l0 g t kd dy ⟨4,⟨ck,cs,ct,cl,cq,ci,cp,cg⟩,id,xh,qty,xi,xg⟩ w (.returned (.tuple #[])) w'):=fun w' qd vw D E=>⟨rfl,D,qd,vw,E⟩;obtain⟨h0,oS⟩:=gm (e:=⟨4,⟨ck,cs,ct,cl,cq,ci,cp,cg⟩,id,xh,qty,xi,xg⟩) (.inl rfl) hr;have oD:t=g.tk:=hm.same oS;have ua:Hid (dK g ⟨4,⟨ck,cs,ct,cl,cq,ci,cp,cg⟩,id,xh,qty,xi,xg⟩ = { g with l:=g.l ++ [t],tk:={ g.tk with left:=0 } }):=by show _ = _;rw[step4 rfl];simp only[begG];rw[if_neg (by omega),oD]
 have ue:Hid (tkM g t ⟨4,⟨ck,cs,ct,cl,cq,ci,cp,cg⟩,id,xh,qty,xi,xg⟩=zOd/\kdM kd ⟨4,⟨ck,cs,ct,cl,cq,ci,cp,cg⟩,id,xh,qty,xi,xg⟩=kd/\dyM g dy ⟨4,⟨ck,cs,ct,cl,cq,ci,cp,cg⟩,id,xh,qty,xi,xg⟩=dy):=⟨rfl,rfl,rfl⟩;have hbn:(g.bg != 0)=true:=by simp[h0]
 have oX:Hid (g.bg≠0):=by show _ ≠ _;omega
 have oo:=hi.len;obtain⟨la,lc,rfl⟩:=gA (zP h.row (yN oo (by decide)));obtain⟨i0,vA,uE,uw,uC⟩:=info_parts Tryz.infoOrder;clear h0 oS oD;generalize TakK O B ob va n0 l0 g t kd dy ⟨4,⟨ck,cs,ct,cl,cq,ci,cp,cg⟩,id,xh,qty,xi,xg⟩ w=C at jF |-;obtain⟨xA,HX⟩:=lY w (yv 4 ck cs ct cl cq ci cp cg id xh qty xi xg) 89;have HM:=Q (zv h xA);have HB:Hid (KO O ob w (w.alloc (J (yv 4 ck cs ct cl cq ci cp cg id xh qty xi xg).toArray 89))):=ko_of xA;clear h xA hi hm he hr;go_enter Tryz.func85,Tryz.ntmps85;refine lX fun ho HK=>?_;go_wp2_with fail;refine Z HK _ _ ?_;clear HK;generalize (w.alloc (J (yv 4 ck cs ct cl cq ci cp cg id xh qty xi xg).toArray 89))=W1 at HX HM HB |-;have c9:=Y (Z HM).box 9 rfl;have q9:=zc (Z HM).box 9 (by show 9<13;decide);have xq:Hid (KO O ob w (World.setCells W1 O 9 [.bool true])):=et (Z HB) 9 _;have xT:Hid (MS O B (World.setCells W1 O 9 [.bool true]) (.slice la g.l.length lc) vd va g t kd n0 dy l0):=eS (Z HM) 9 [.bool true] (by simp) (by simp[msV,hbn]) rfl (fun h=>absurd h (Z oX));have e0:(World.setCells W1 O 9 [.bool true]).cell? (U w.heap.size 0)=some (H 4):=Y (zQ (Z HX) (ep O w.heap.size (by omega) _ 9 W1)) 0 rfl;clear hbn HX HM HB;refine lX fun ho HK=>?_;go_wp2_with fail;refine Z HK _ _ ?_;clear HK;change Code.wp _ _ _ _ (World.setCells W1 O 9 [.bool true]);generalize World.setCells W1 O 9 [.bool true]=hk at xq xT e0 |-;clear c9 q9;go_wp2_with fail;refine zL (R4A (fun f=>{ tmps:=#[xj O 0,.agg (yv 4 ck cs ct cl cq ci cp cg id xh qty xi xg).toArray,F,xj w.heap.size 0,F,xj O 0,xj O 0,xj O 9,xj w.heap.size 0,H 4,.bool false,.bool false,F,F,F,F,F,F,F,F,F,F,F,F,F,F,F,F,F,F,F,F,F,F,F,.bool false,.bool false,F,F,F,F,F,F,F,F,F,F,F,F,F,F,F,F,F,F,F,F,F,F,F,F,F,F,.bool true,.bool true,f 0,f 1,f 2,f 3,f 4,f 5,f 6,f 7,f 8,f 9,f 10,f 11,f 12,f 13,f 14,F,F,F,F,F,F,F,F,F,F,F,F,F,F,F,F,F,F,F,F,F,F,F,F,F,F,F,F,F,F,F,F,F,F,F,F,F,F,F,F,F,F,F,F,F,F,F,F,F,F,F,F,F,F,F,F,F,F,F,F,F,F,F,F,F,F,F,F,F,F,F,F,F,F,F,F,F,F,F,F,F,F,F,F,F,F,F,F,F,F,F,F,F,F,F,F,F,F,F,F,F,F,F,F,F],defers:=[] }) (fun j v=>∀u,([some (xj O 0),none,some (xj O 0),some (xj O 0),some (xj O 1),some (.slice la g.l.length lc),none,some (xj O 0),some (xj O 0),some (xj O 2),some (.agg (yw t.id t.side t.ticks t.left t.life t.tag).toArray),none,none,some (xj O 0),some (xj O 1),none]:List (Option Value))[j]? = some (some u)->v=u) (U O 1) hk g.l t) (by kernel_rfl) ?_ ?_ ?_
 ·have vZ:∀j,(List.replicate 16 false)[j]? = some true->False:=fun j hj=>by rw[yI] at hj;split at hj <;> simp at hj
  exact⟨fun _=>F,rfl,⟨fun j hj=>(vZ j hj).elim,fun _=>⟨rfl,rfl,rfl,Nat.le_refl _,fun _ _=>rfl⟩,fun h=>(vZ _ h).elim,fun h=>(vZ _ h).elim,fun h=>(vZ _ h).elim,fun h=>(vZ _ h).elim,fun h=>(vZ _ h).elim⟩⟩
 ·rintro x hb zb ⟨f,rfl,hR⟩ hx xU;have xv:=eJ xU hx (acyc _ (by kernel_rfl));obtain⟨W0,⟨K,xA⟩,eY⟩:=hR.mz (xv 15 (by simp));have kU:=Q (zv (Z xT) xA);have xK:=Q (ic (Z xq) xA);have cQ:=Q (ex K (Z xT).base);clear hR xv xU hx xA K;dsimp only;generalize f 0=v0,f 1=v1,f 2=v2,f 3=v3,f 4=v4,f 5=v5,f 6=v6,f 7=v7,f 8=v8,f 9=v9,f 10=v10,f 11=v11;generalize f 12=v12 at *;generalize f 13=v13,f 14=v14;have un:Hid (MS O B (W0.setCell (U O 1) v12) v12 vd va { g with l:=g.l ++ [t] } t kd n0 dy l0):=ms_list (Z kU) (Z cQ) (fun h=>absurd h (Z oX));have uT:Hid (KO O ob w (W0.setCell (U O 1) v12)):=et (Z xK) 1 [v12];rw[<- eY] at un uT;clear eY kU xK cQ;have c2:=Y (Z un).box 2 rfl;have q2:=zc (Z un).box 2 (by show 2<13;decide);have c3:=Y (Z un).box 3 rfl;have q3:=zc (Z un).box 3 (by show 3<13;decide);have c4:=Y (Z un).box 4 rfl;have q4:=zc (Z un).box 4 (by show 4<13;decide);have c5:=Y (Z un).box 5 rfl;have q5:=zc (Z un).box 5 (by show 5<13;decide);have c6:=Y (Z un).box 6 rfl;have q6:=zc (Z un).box 6 (by show 6<13;decide);have c7:=Y (Z un).box 7 rfl;have q7:=zc (Z un).box 7 (by show 7<13;decide);go_wp2_with fail;go_end0;refine Z jF _ v12 vd (et (Z uT) 2 (yw 0 0 0 0 0 ⟨#[]⟩)) ?_;rw[Z ua,(Z ue).1,(Z ue).2.1,(Z ue).2.2];exact eS (Z un) 2 (yw 0 0 0 0 0 ⟨#[]⟩) (by simp) rfl rfl (fun h=>absurd h (Z oX))
 ·rintro x hb V i op ⟨f,rfl,hR⟩ xm hx K xJ I;have xu:=Q hR
  match i,K with
  | 0,K|2,K|7,K =>
   obtain rfl:=yb K;clear I hR xm;rw[if_pos (by rfl)];unfold Oper.wp;go_simp;exact⟨upd f _ (xj O 0),by simp[upd],fT (Z xu) _ _ (yi rfl) (by decide)⟩
  | 1,K =>
   obtain rfl:=yb K;have pM:x[15]? = some false:=dV xm 16 1 15 (by kernel_rfl) hx (by simp) xJ;clear I hR xm;rw[if_pos (by rfl)];unfold Oper.wp;go_simp;exact⟨upd f 1 (.slice (some (U V.heap.size 0)) 0 0),by simp[upd],r4_1 (Z xu) pM (fun v u hu=>by cases hu)⟩
  | 3,K =>
   obtain rfl:=yb K;have g2:=hR.c 2 (ye I 2 rfl) _ rfl;clear I hR xm;rw[if_pos (by rfl)];unfold Oper.wp;go_simp;exact⟨upd f 3 (xj O 0),by simp[upd,g2],fT (Z xu) 3 _ (yi rfl) (by decide)⟩
  | 4,K =>
   obtain rfl:=yb K;have g3:=hR.c 3 (ye I 3 rfl) _ rfl;clear I hR xm;rw[if_pos (by rfl)];unfold Oper.wp;go_simp;exact⟨upd f 4 (xj O 1),by simp[upd,g3],fT (Z xu) 4 _ (yi rfl) (by decide)⟩
  | 5,K =>
   obtain rfl:=yb K;have g4:=hR.c 4 (ye I 4 rfl) _ rfl;have pM:x[15]? = some false:=dV xm 16 5 15 (by kernel_rfl) hx (by simp) xJ;have pP:=Q (zv (Z xT) (hR.bel pM));have z1:=Y (Z pP).box 1 rfl;clear I hR xm;rw[if_pos (by rfl)];unfold Oper.wp;go_simp;exact⟨upd f 5 (.slice la g.l.length lc),by simp[upd,g4],fT (Z xu) 5 _ (yi rfl) (by decide)⟩
  | 6,K =>
   obtain rfl:=yb K;have pM:x[15]? = some false:=dV xm 16 6 15 (by kernel_rfl) hx (by simp) xJ;have k1:x[1]? = some true:=I ⟨1,.data⟩ (by simp) rfl;have g5:=hR.c 5 (ye I 5 rfl) _ rfl;have k12:x[12]? = some false:=dV xm 16 6 12 (by kernel_rfl) hx (by simp) xJ;have HO0:=Q (hR.m0 k1 xJ);have kg:=hR.bel pM;have HROW:=Q (zK (Z xT).row kg)
   have HRDV:Hid (∀ad,la=some ad->∀j u,(g.l.flatMap Od.vs)[j]? = some u->V.cell? (ad.add j)=some u):=fun ad had=>by
    have h:=zP (Z HROW) (yN oo (by decide));rw[had] at h;exact rd_src h
   clear I hR xm;rw[if_pos (by rfl)];rcases oRow_sl (Z HROW) with h|⟨ad,nn,cc,h⟩
   ·simp only[Value.slice.injEq] at h;have hL:g.l = []:=List.length_eq_zero_iff.1 h.2.1;refine lB (.tmp 66) (.tmp 70) 39 rfl hk.heap.size 98 i0 6 Tryz.underlying39 vA (f 1) 0 [] rfl (Z HO0) (by show f 5 = _;rw[g5,h.1,h.2.1,h.2.2]) ?_;exact⟨upd f 6 (f 1),rfl,r4_6 (Z xu) pM k1 xJ k12 (fun v u hu=>by cases hu) (by rw[hL];exact Z HO0) (yR _ _)⟩
   ·simp only[Value.slice.injEq] at h;refine wp_append_own V (.tmp 66) (.tmp 70) 39 rfl hk.heap.size 98 i0 _ 6 56 Tryz.underlying39 vA uE uw uC rfl (by decide) (f 1) 0 [] rfl (Z HO0) ad g.l.length lc (g.l.flatMap Od.vs) (by show f 5 = _;rw[g5,h.1]) (by rw[ef Od.len]) (Z HRDV ad h.1) (fQ g.l) (by unfold maxLen;omega) (by omega) kg.size ?_;intro v' w' xL vY _;refine⟨upd f 6 v',rfl,r4_6 (Z xu) pM k1 xJ k12 (fun v u hu=>by cases hu) ?_ vY⟩;show w'.ownsRow _ _ _ _ g.l.length _;simpa using xL
  | 8,K =>
   obtain rfl:=yb K;have g7:=hR.c 7 (ye I 7 rfl) _ rfl;clear I hR xm;rw[if_pos (by rfl)];unfold Oper.wp;go_simp;exact⟨upd f 8 (xj O 0),by simp[upd,g7],fT (Z xu) 8 _ (yi rfl) (by decide)⟩
  | 9,K =>
   obtain rfl:=yb K;have g8:=hR.c 8 (ye I 8 rfl) _ rfl;clear I hR xm;rw[if_pos (by rfl)];unfold Oper.wp;go_simp;exact⟨upd f 9 (xj O 2),by simp[upd,g8],fT (Z xu) 9 _ (yi rfl) (by decide)⟩
  | 10,K =>
   obtain rfl:=yb K;have g9:=hR.c 9 (ye I 9 rfl) _ rfl;have pM:x[15]? = some false:=dV xm 16 10 15 (by kernel_rfl) hx (by simp) xJ;have pP:=Q (zv (Z xT) (hR.bel pM));have z2:=Y (Z pP).box 2 rfl;have z3:=Y (Z pP).box 3 rfl;have z4:=Y (Z pP).box 4 rfl;have z5:=Y (Z pP).box 5 rfl;have z6:=Y (Z pP).box 6 rfl;have z7:=Y (Z pP).box 7 rfl;clear I hR xm;rw[if_pos (by rfl)];unfold Oper.wp;go_simp;exact⟨upd f 10 (.agg (yw t.id t.side t.ticks t.left t.life t.tag).toArray),by simp[upd,g9],fT (Z xu) 10 _ (yi rfl) (by decide)⟩
  | 11,K =>
   obtain rfl:=yb K;have oi:=hR.c 10 (ye I 10 rfl) _ rfl;have pM:x[15]? = some false:=dV xm 16 11 15 (by kernel_rfl) hx (by simp) xJ;clear I hR xm;rw[if_pos (by rfl)];unfold Oper.wp;go_simp;exact⟨upd f 11 (.slice (some (U V.heap.size 0)) 1 1),by simp[upd,oi],r4_11 (Z xu) pM xJ (fun v u hu=>by cases hu)⟩
  | 12,K =>
   obtain rfl:=yb K;have pM:x[15]? = some false:=dV xm 16 12 15 (by kernel_rfl) hx (by simp) xJ;have k6:x[6]? = some true:=I ⟨6,.data⟩ (by simp) rfl;obtain⟨b4,jU,xR,xN,-⟩:=hR.m4 (ye I 11 rfl) xJ;have pQ:=Q (hR.m2 k6 xJ);have kg:=hR.bel pM
   have uA:Hid (∀j u,t.vs[j]? = some u->V.cell? (((U b4 0):Addr).add j)=some u):=fun j u hu=>by
    have:=xN j u hu;rw[Addr.add_mid];exact this
   clear I hR xm xN;rw[if_pos (by rfl)];refine wp_append_own V (.tmp 71) (.tmp 76) 39 rfl hk.heap.size 98 i0 _ 6 56 Tryz.underlying39 vA uE uw uC rfl (by decide) (f 6) g.l.length (g.l.flatMap Od.vs) rfl (Z pQ) (U b4 0) 1 1 t.vs (by show f 11 = _;exact jU) rfl (Z uA) (one_od t) (by unfold maxLen;omega) (by omega) kg.size ?_;intro v' w' xL vY _;refine⟨upd f 12 v',rfl,r4_12 (Z xu) pM k6 xJ (fun v u hu=>by cases hu) ?_ vY⟩;show w'.ownsRow _ _ _ _ (g.l ++ [t]).length _;rw[yP,List.flatMap_append];simpa using xL
  | 13,K =>
   obtain rfl:=yb K;have g0:=hR.c 0 (ye I 0 rfl) _ rfl;clear I hR xm;rw[if_pos (by rfl)];unfold Oper.wp;go_simp;exact⟨upd f 13 (xj O 0),by simp[upd,g0],fT (Z xu) 13 _ (yi rfl) (by decide)⟩
  | 14,K =>
   obtain rfl:=yb K;have oZ:=hR.c 13 (ye I 13 rfl) _ rfl;clear I hR xm;rw[if_pos (by rfl)];unfold Oper.wp;go_simp;exact⟨upd f 14 (xj O 1),by simp[upd,oZ],fT (Z xu) 14 _ (yi rfl) (by decide)⟩
  | 15,K =>
   obtain rfl:=yb K;have bp:=hR.c 14 (ye I 14 rfl) _ rfl;have k12:x[12]? = some true:=I ⟨12,.data⟩ (by simp) rfl;have k6:x[6]? = some true:=yf xm 12 rfl k12 6 rfl;have qp:=Q (zv (Z xT) (hR.bel xJ));have y1:=Y (Z qp).box 1 rfl;have q1:=zc (Z qp).box 1 (by show 1<13;decide);obtain⟨ga,gc,qh⟩:=gA (zP (hR.m5 k12 xJ) (by simp;omega));generalize (g.l ++ [t]).length=gn at qh;clear I hR xm;rw[if_pos (by rfl)];unfold Oper.wp;go_simp;refine⟨f,by simp[bp,qh],?_⟩;have:=r4_15 (Z xu) xJ k12 k6 (fun v u hu=>by cases hu);rw[qh] at this;exact this
  | i+16,K=>simp at K
end Go.Proofs.YtbghmldggahjiaaGreatDoor
