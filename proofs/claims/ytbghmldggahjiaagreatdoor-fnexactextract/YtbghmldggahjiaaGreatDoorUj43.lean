/-.-/
import Derived.Test.YtbghmldggahjiaaGreatDoorUj41
import Derived.Test.YtbghmldggahjiaaGreatDoorUj42
set_option linter.unusedVariables false
set_option maxHeartbeats 6400000
set_option maxRecDepth 100000
namespace Go.Proofs.YtbghmldggahjiaaGreatDoor
open Go.RowKit
theorem first_6 {O B:Nat}{vl vd va:Value}{g:Gr}{t:Od}{kd n0:Int}{dy l0:List Od}(ck cs ct cl cq ci:Int)(cp:Nat)(cg:ByteArray)(id xh qty xi xg:Int)(w:World)(h:MS O B w vl vd va g t kd n0 dy l0)(hi:GI g)(A:g.bg=0)(M:cg.size<=maxLen):Calls Tryz.prog 120 #[xj O 0,.agg (yv 6 ck cs ct cl cq ci cp cg id xh qty xi xg).toArray] w fun x w'=>x = .returned (H (fstM g.nx g.l ⟨6,⟨ck,cs,ct,cl,cq,ci,cp,cg⟩,id,xh,qty,xi,xg⟩))/\yn w w':=by
 have hsf:=sfl;have qO:=Q (fun W=>gS 6 W (by decide));have uF:=Q (fun W=>ip ⟨6,⟨ck,cs,ct,cl,cq,ci,cp,cg⟩,id,xh,qty,xi,xg⟩ W (by show(1:Int)<=6/\(6:Int)<=9;decide));have jM:=Q (hi.good (.inl (by omega)));have HSI:=Q (hi.start A).2.2.1;have xD:=hi.len;have qN:Hid (fstM g.nx g.l ⟨6,⟨ck,cs,ct,cl,cq,ci,cp,cg⟩,id,xh,qty,xi,xg⟩=if refR g.nx g.l (zV ⟨6,⟨ck,cs,ct,cl,cq,ci,cp,cg⟩,id,xh,qty,xi,xg⟩)=0 then(if qty=leftAt g.l id then 0 else 7) else 5):=by show _ = _;simp[fstM,zR]
 have pq:Hid ((zV ⟨6,⟨ck,cs,ct,cl,cq,ci,cp,cg⟩,id,xh,qty,xi,xg⟩).g.size<=maxLen):=iy M;have pk:=Q (h.eqn A)
 have cR:Hid (refR g.nx g.l (zV ⟨6,⟨ck,cs,ct,cl,cq,ci,cp,cg⟩,id,xh,qty,xi,xg⟩)=0->∃(k:Nat) (o:Od),plc g.l id=k/\g.l[k]? = some o):=fun E=>by
  simp only[zV] at E;obtain⟨k,o,a,b,_⟩:=plc_pos (ref_can E);exact⟨k,o,a,b⟩
 generalize fstM g.nx g.l ⟨6,⟨ck,cs,ct,cl,cq,ci,cp,cg⟩,id,xh,qty,xi,xg⟩=fm at qN |-;generalize zV ⟨6,⟨ck,cs,ct,cl,cq,ci,cp,cg⟩,id,xh,qty,xi,xg⟩=c at uF qN pq cR;unfold evV at uF;simp only at uF;obtain⟨xA,HX⟩:=lY w (yv 6 ck cs ct cl cq ci cp cg id xh qty xi xg) 89;have HS:Hid ((w.alloc (J (yv 6 ck cs ct cl cq ci cp cg id xh qty xi xg).toArray 89)).heap.size=w.heap.size+1):=by show _ = _;simp
 have HM:=Q (zv h xA);have HB:=Q xA;clear h xA hi A M;go_enter Tryz.func120,Tryz.ntmps120;refine lX fun ho HK=>?_;go_wp2_with fail;refine Z HK _ _ ?_;clear HK;generalize (w.alloc (J (yv 6 ck cs ct cl cq ci cp cg id xh qty xi xg).toArray 89))=W1 at HS HX HM HB |-;obtain⟨e0,e1,e2,e3,e4,e5,e6,e7,e8,e9,uL,uG,vJ,vu⟩:=yy (Z HX);go_wp2_with fail;refine(Z qO W1).mono ?_;rintro e w1 ⟨rfl,ju⟩;rw[ju];clear ju;go_wp2_with fail;refine(Z uF W1).mono ?_;rintro e w3 ⟨rfl,xN⟩;have hz:=Z HS;obtain⟨dk,ds,dt,dl,dq,di,dp,dg⟩:=c;unfold cmV;simp only;have xz:=lT w3 (J (yx dk ds dt dl dq di dp dg).toArray 57);have vk:=xN.trans (xz.mono xN.size);have xw:=Q (zf (Z HX) vk (by omega));have kU:=Q (zv (Z HM) vk);have xK:=Q (lW (Z HB) vk);have qg:=Q (zj w3 (yx dk ds dt dl dq di dp dg) 57);have kJ:w.heap.size<(w3.alloc (J (yx dk ds dt dl dq di dp dg).toArray 57)).heap.size:=by have:=xN.size;simp;omega
 clear xN xz vk hz HX HM HB HS e0 e1 e2 e3 e4 e5 e6 e7 e8 e9 uL uG vJ vu;go_wp2_with fail;generalize (w3.alloc (J (yx dk ds dt dl dq di dp dg).toArray 57))=hk at xw kU xK qg kJ |-;have xW:Hid (Bx hk.drew w.heap.size (yv 6 ck cs ct cl cq ci cp cg id xh qty xi xg)):=zm (Z xw);have qq:Hid (MS O B hk.drew vl vd va g t kd n0 dy l0):=zv (Z kU) ⟨rfl,rfl,rfl,Nat.le_refl _,fun _ _=>rfl⟩;have uk:Hid (yn w hk.drew):=⟨(Z xK).os,(Z xK).tape,(Z xK).output,(Z xK).size,(Z xK).block⟩;have vX:Hid (Bx hk.drew w3.heap.size (yx dk ds dt dl dq di dp dg)):=zm (Z qg);clear xw kU xK qg;obtain⟨d0,d1,d2,d3,d4,d5,d6,d7⟩:=yz (Z vX);have c11:=Y (Z qq).box 11 rfl;have c12:=Y (Z qq).box 12 rfl
 have vM:Hid (Calls Tryz.prog 167 #[.agg #[H n0,va],.agg (yx dk ds dt dl dq di dp dg).toArray] hk.drew fun e w'=>e = .returned (H (refR g.nx g.l ⟨dk,ds,dt,dl,dq,di,dp,dg⟩))/\Below hk.drew.heap.size hk.drew w'):=by
  have D:=(Z qq).ahd;rw[(Z pk).2] at D;have:=iM g.nx va g.l ⟨dk,ds,dt,dl,dq,di,dp,dg⟩ hk.drew D (Z qq).sla (Z jM) (Z HSI) (Z pq);rw[ref_eq] at this;rw[(Z pk).1];exact this
 refine zw 5 (by kernel_rfl) (by kernel_rfl) ?_;simp only[yT,List.take_zero,yU,List.drop_zero]
 repeat still_step
 refine wpStill_nil ?_;clear d0 d1 d2 d3 d4 d5 d6 d7 c11 c12;go_wp2_with fail;refine(Z vM).mono ?_;rintro e w5 ⟨rfl,xX⟩;have uK:=Q (zf (Z xW) xX kJ);have un:=Q (zv (Z qq) xX);have uT:=Q (lW (Z uk) xX);clear xX vM xW qq uk vX;generalize refR g.nx g.l ⟨dk,ds,dt,dl,dq,di,dp,dg⟩=rr at qN cR |-;have e0:=Y (Z uK) 0 rfl;have e9:=Y (Z uK) 9 rfl;have uG:=Y (Z uK) 11 rfl;have vu:=Y (Z uK) 13 rfl
 by_cases h0:rr=0
 case neg =>
  have b0:(rr != 0)=true:=by simpa using h0
  have HQ:Hid (fm=5):=by show _ = _;rw[Z qN,if_neg h0]
  clear h0;go_wp2_with fail;go_ret;exact⟨by rw[Z HQ];rfl,Z uT⟩
 have b0:(rr != 0)=false:=by simpa using h0
 have ka:=Q (Z qN);rw[if_pos h0] at ka;obtain⟨k,o,uJ,vC⟩:=Z cR h0;clear h0 qN cR;rw[leftAt_at uJ vC] at ka;obtain⟨a,cap,rfl,cx,hdc⟩:=zP (Z un).row (yN xD (by decide));obtain⟨b,off,rfl,oP,xm⟩:=hdc (by intro h;rw[h] at vC;simp at vC);obtain⟨-,-,-,y3,-,-⟩:=zM (xm k o vC);have pg:=(yG.1 vC).1;have hkl':(k:Int)<g.l.length:=by omega
 have oB:(0:Int)<=k:=by omega
 have uU:=Q (zP (Z un).row (yN xD (by decide)));have c1:=Y (Z un).box 1 rfl;have k1:=cell_regrown c1;have k9:=cell_regrown e9;have k11:=cell_regrown uG;have k3:=cell_regrown y3
 have cf:∀d os,Calls Tryz.prog 123 #[.slice (some (U b off)) g.l.length cap,H id] (Go.Sort.grow (redrawn w5 d) os) fun e w''=>e = .returned (H k)/\∃p:Regrown,w''=Go.Sort.grow (redrawn w5 p.d) p.os:=fun d os=>Calls.regrown_of (by
  have:=gU _ g.l id (Go.Sort.grow (redrawn w5 d) os) (zq (Z uU) (below_regrown w5 d os) ya);rw[uJ] at this;exact this)
 generalize o.left=ol at ka k3 y3;clear uJ vC hdc xm;go_wp2_with fail;refine wp_region_quiet_below (by kernel_rfl) (by kernel_rfl) ?_;clear c1 e0 e9 uG vu y3
 repeat (quiet_step (first|(with_reducible exact cf _ _)))
 refine wpQuiet_nil ?_;rintro w' ⟨p,ur⟩
 have kh:Hid (yn w w'):=by
  rw[ur];exact(Z uT).trans ((below_regrown w5 p.d p.os).mono (Z uT).size)
 clear ur cf k1 k9 k11 k3
 by_cases D:qty=ol
 ·have b1:(qty != ol)=false:=by simpa using D
  rw[if_pos D] at ka;clear D;go_wp2_with fail;go_ret;exact⟨by rw[Z ka];rfl,Z kh⟩
 ·have b1:(qty != ol)=true:=by simpa using D
  rw[if_neg D] at ka;clear D;go_wp2_with fail;go_ret;exact⟨by rw[Z ka];rfl,Z kh⟩
theorem first_8 {O B:Nat}{vl vd va:Value}{g:Gr}{t:Od}{kd n0:Int}{dy l0:List Od}(ck cs ct cl cq ci:Int)(cp:Nat)(cg:ByteArray)(id xh qty xi xg:Int)(w:World)(h:MS O B w vl vd va g t kd n0 dy l0)(hi:GI g)(A:g.bg=0)(M:cg.size<=maxLen):Calls Tryz.prog 120 #[xj O 0,.agg (yv 8 ck cs ct cl cq ci cp cg id xh qty xi xg).toArray] w fun x w'=>x = .returned (H (fstM g.nx g.l ⟨8,⟨ck,cs,ct,cl,cq,ci,cp,cg⟩,id,xh,qty,xi,xg⟩))/\yn w w':=by
 have hsf:=sfl;have qO:=Q (fun W=>gS 8 W (by decide));have uF:=Q (fun W=>ip ⟨8,⟨ck,cs,ct,cl,cq,ci,cp,cg⟩,id,xh,qty,xi,xg⟩ W (by show(1:Int)<=8/\(8:Int)<=9;decide));have jM:=Q (hi.good (.inl (by omega)));have HSI:=Q (hi.start A).2.2.1;have xD:=hi.len;have qN:Hid (fstM g.nx g.l ⟨8,⟨ck,cs,ct,cl,cq,ci,cp,cg⟩,id,xh,qty,xi,xg⟩=if refR g.nx g.l (zV ⟨8,⟨ck,cs,ct,cl,cq,ci,cp,cg⟩,id,xh,qty,xi,xg⟩)=0 then(if qty=((dys g.l).length:Int) then 0 else 7) else 5):=by show _ = _;simp[fstM,zR]
 have pq:Hid ((zV ⟨8,⟨ck,cs,ct,cl,cq,ci,cp,cg⟩,id,xh,qty,xi,xg⟩).g.size<=maxLen):=iy M;have pk:=Q (h.eqn A);generalize fstM g.nx g.l ⟨8,⟨ck,cs,ct,cl,cq,ci,cp,cg⟩,id,xh,qty,xi,xg⟩=fm at qN |-;generalize zV ⟨8,⟨ck,cs,ct,cl,cq,ci,cp,cg⟩,id,xh,qty,xi,xg⟩=c at uF qN pq;unfold evV at uF;simp only at uF;obtain⟨xA,HX⟩:=lY w (yv 8 ck cs ct cl cq ci cp cg id xh qty xi xg) 89;have HS:Hid ((w.alloc (J (yv 8 ck cs ct cl cq ci cp cg id xh qty xi xg).toArray 89)).heap.size=w.heap.size+1):=by show _ = _;simp
 have HM:=Q (zv h xA);have HB:=Q xA;clear h xA hi A M;go_enter Tryz.func120,Tryz.ntmps120;refine lX fun ho HK=>?_;go_wp2_with fail;refine Z HK _ _ ?_;clear HK;generalize (w.alloc (J (yv 8 ck cs ct cl cq ci cp cg id xh qty xi xg).toArray 89))=W1 at HS HX HM HB |-;obtain⟨e0,e1,e2,e3,e4,e5,e6,e7,e8,e9,uL,uG,vJ,vu⟩:=yy (Z HX);go_wp2_with fail;refine(Z qO W1).mono ?_;rintro e w1 ⟨rfl,ju⟩;rw[ju];clear ju;go_wp2_with fail;refine(Z uF W1).mono ?_;rintro e w3 ⟨rfl,xN⟩;have hz:=Z HS;obtain⟨dk,ds,dt,dl,dq,di,dp,dg⟩:=c;unfold cmV;simp only;have xz:=lT w3 (J (yx dk ds dt dl dq di dp dg).toArray 57);have vk:=xN.trans (xz.mono xN.size);have xw:=Q (zf (Z HX) vk (by omega));have kU:=Q (zv (Z HM) vk);have xK:=Q (lW (Z HB) vk);have qg:=Q (zj w3 (yx dk ds dt dl dq di dp dg) 57);have kJ:w.heap.size<(w3.alloc (J (yx dk ds dt dl dq di dp dg).toArray 57)).heap.size:=by have:=xN.size;simp;omega
 clear xN xz vk hz HX HM HB HS e0 e1 e2 e3 e4 e5 e6 e7 e8 e9 uL uG vJ vu;go_wp2_with fail;generalize (w3.alloc (J (yx dk ds dt dl dq di dp dg).toArray 57))=hk at xw kU xK qg kJ |-;have xW:Hid (Bx hk.drew w.heap.size (yv 8 ck cs ct cl cq ci cp cg id xh qty xi xg)):=zm (Z xw);have qq:Hid (MS O B hk.drew vl vd va g t kd n0 dy l0):=zv (Z kU) ⟨rfl,rfl,rfl,Nat.le_refl _,fun _ _=>rfl⟩;have uk:Hid (yn w hk.drew):=⟨(Z xK).os,(Z xK).tape,(Z xK).output,(Z xK).size,(Z xK).block⟩;have vX:Hid (Bx hk.drew w3.heap.size (yx dk ds dt dl dq di dp dg)):=zm (Z qg);clear xw kU xK qg;obtain⟨d0,d1,d2,d3,d4,d5,d6,d7⟩:=yz (Z vX);have c11:=Y (Z qq).box 11 rfl;have c12:=Y (Z qq).box 12 rfl
 have vM:Hid (Calls Tryz.prog 167 #[.agg #[H n0,va],.agg (yx dk ds dt dl dq di dp dg).toArray] hk.drew fun e w'=>e = .returned (H (refR g.nx g.l ⟨dk,ds,dt,dl,dq,di,dp,dg⟩))/\Below hk.drew.heap.size hk.drew w'):=by
  have D:=(Z qq).ahd;rw[(Z pk).2] at D;have:=iM g.nx va g.l ⟨dk,ds,dt,dl,dq,di,dp,dg⟩ hk.drew D (Z qq).sla (Z jM) (Z HSI) (Z pq);rw[ref_eq] at this;rw[(Z pk).1];exact this
 refine zw 5 (by kernel_rfl) (by kernel_rfl) ?_;simp only[yT,List.take_zero,yU,List.drop_zero]
 repeat still_step
 refine wpStill_nil ?_;clear d0 d1 d2 d3 d4 d5 d6 d7 c11 c12;go_wp2_with fail;refine(Z vM).mono ?_;rintro e w5 ⟨rfl,xX⟩;have uK:=Q (zf (Z xW) xX kJ);have un:=Q (zv (Z qq) xX);have uT:=Q (lW (Z uk) xX);clear xX vM xW qq uk vX;generalize refR g.nx g.l ⟨dk,ds,dt,dl,dq,di,dp,dg⟩=rr at qN |-;have e0:=Y (Z uK) 0 rfl;have e9:=Y (Z uK) 9 rfl;have uG:=Y (Z uK) 11 rfl;have vu:=Y (Z uK) 13 rfl
 by_cases h0:rr=0
 case neg =>
  have b0:(rr != 0)=true:=by simpa using h0
  have HQ:Hid (fm=5):=by show _ = _;rw[Z qN,if_neg h0]
  clear h0;go_wp2_with fail;go_ret;exact⟨by rw[Z HQ];rfl,Z uT⟩
 have b0:(rr != 0)=false:=by simpa using h0
 have ka:=Q (Z qN);rw[if_pos h0] at ka;clear h0 qN;have c1:=Y (Z un).box 1 rfl;have uU:=Q (zP (Z un).row (yN xD (by decide)));have HDA:=Q (fun W (h:RdR Od.vs 6 W vl g.l)=>l04Days_any vl g.l W h (yN xD (by decide)));generalize dys g.l=dn8 at ka HDA;have oY:Hid (∀W,yn w5 W->yn w W):=fun W h=>(Z uT).trans (h.mono (Z uT).size);go_wp2_with fail;have pS:Hid (yn w5 w5.drew):=(Below.refl _ _).drew;have hO5:=(Z un).lt;have hE5:w.heap.size<w5.heap.size:=yK _ _ uG
 have bJ:Hid (∀V,yn w5 V->Calls Tryz.prog 168 #[vl] V fun e w'=>∃a6 c6,e = .returned (.slice a6 dn8.length c6)/\yn w5 w'):=fun V hV=>(Z HDA V (zq (Z uU) hV ya)).mono fun e w' ⟨v6,D,E,h3⟩=>by
  obtain⟨a6,c6,rfl⟩:=iRow_slice E;exact⟨a6,c6,D,hV.trans (h3.mono hV.size)⟩
 have oz:Hid (∀V,yn w5 V->V.cell? (U w.heap.size 11)=some (H qty)/\V.cell? (U O 1)=some vl):=fun V hV=>⟨(hV.cell (p:=(U w.heap.size 11)) hE5).trans uG,(hV.cell (p:=(U O 1)) hO5).trans c1⟩
 go_region_held3 (fun w'=>w'.cell? (U w.heap.size 11)=some (H qty)/\w'.cell? (U O 1)=some vl) (first|exact Z oz _ hq|exact Z oz _ (Z pS)|go_keep) ((go_at_call 168;refine(Z bJ _ (Z pS)).mono ?_;rintro e V ⟨a6,c6,rfl,hq⟩))
 have kh:=Q (Z oY V hq);clear hq pS bJ oz;generalize dn8.length=dn at ka |-
 by_cases D:qty=(dn:Int)
 ·have b1:(qty != (dn:Int))=false:=by simpa using D
  rw[if_pos D] at ka;clear D;go_wp2_with fail;go_ret;exact⟨by rw[Z ka];rfl,Z kh⟩
 ·have b1:(qty != (dn:Int))=true:=by simpa using D
  rw[if_neg D] at ka;clear D;go_wp2_with fail;go_ret;exact⟨by rw[Z ka];rfl,Z kh⟩
theorem first_any {O B:Nat}{vl vd va:Value}{g:Gr}{t:Od}{kd n0:Int}{dy l0:List Od}(e:Ev)(w:World)(h:MS O B w vl vd va g t kd n0 dy l0)(hi:GI g)(A:g.bg=0)(X:1<=e.kind/\e.kind<=9)(M:e.cmd.g.size<=maxLen):Calls Tryz.prog 120 #[xj O 0,evV e] w fun x w'=>x = .returned (H (fstM g.nx g.l e))/\yn w w':=by
 obtain⟨xl,⟨ck,cs,ct,cl,cq,ci,cp,cg⟩,id,xh,qty,xi,xg⟩:=e;unfold evV;simp only at X M |-;rcases(show xl=1\/xl=2\/xl=3\/xl=4\/xl=5\/xl=6\/xl=7\/xl=8\/xl=9 by omega) with rfl|rfl|rfl|rfl|rfl|rfl|rfl|rfl|rfl
 ·exact first_1 ck cs ct cl cq ci cp cg id xh qty xi xg w h hi A M
 ·exact first_2 ck cs ct cl cq ci cp cg id xh qty xi xg w h hi A M
 ·exact ls 3 ck cs ct cl cq ci cp cg id xh qty xi xg O g w (by decide) rfl
 ·exact ls 4 ck cs ct cl cq ci cp cg id xh qty xi xg O g w (by decide) rfl
 ·exact ls 5 ck cs ct cl cq ci cp cg id xh qty xi xg O g w (by decide) rfl
 ·exact first_6 ck cs ct cl cq ci cp cg id xh qty xi xg w h hi A M
 ·exact first_7 ck cs ct cl cq ci cp cg id xh qty xi xg w h hi A M
 ·exact first_8 ck cs ct cl cq ci cp cg id xh qty xi xg w h hi A M
 ·exact ls 9 ck cs ct cl cq ci cp cg id xh qty xi xg O g w (by decide) rfl
theorem broken_any {O B:Nat}{vl vd va:Value}{g:Gr}{t:Od}{kd n0:Int}{dy l0:List Od}(e:Ev)(w:World)(h:MS O B w vl vd va g t kd n0 dy l0)(hi:GI g)(hm:MR g t kd dy)(X:1<=e.kind/\e.kind<=9)(M:e.cmd.g.size<=maxLen):Calls Tryz.prog 83 #[xj O 0,evV e] w fun x w'=>x = .returned (H (zx g e))/\yn w w':=by
 have hsf:=sfl;rw[<- ruleM_eq X];have uy:Hid (ruleM g e=if g.bg=0 then fstM g.nx g.l e else latM (dueG g) e):=rfl
 have bK:Hid (g.bg=0->∀W,MS O B W vl vd va g t kd n0 dy l0->Calls Tryz.prog 120 #[xj O 0,evV e] W fun x w'=>x = .returned (H (fstM g.nx g.l e))/\yn W w'):=fun A W hW=>first_any e W hW hi A X M;have HLA:=Q (fun W (hW:MS O B W vl vd va g t kd n0 dy l0)=>later_any e W hW hi hm X);generalize ruleM g e=ru at uy |-;generalize fstM g.nx g.l e=fm at uy bK;generalize latM (dueG g) e=lm at uy HLA;obtain⟨xl,⟨ck,cs,ct,cl,cq,ci,cp,cg⟩,id,xh,qty,xi,xg⟩:=e;unfold evV at bK HLA |-;simp only at bK HLA |-;obtain⟨xA,HX⟩:=lY w (yv xl ck cs ct cl cq ci cp cg id xh qty xi xg) 89;have HM:=Q (zv h xA);have HB:=Q xA;clear h xA hi hm X M;go_enter Tryz.func83,Tryz.ntmps83;refine lX fun ho HK=>?_;go_wp2_with fail;refine Z HK _ _ ?_;clear HK;generalize (w.alloc (J (yv xl ck cs ct cl cq ci cp cg id xh qty xi xg).toArray 89))=W1 at HX HM HB |-;obtain⟨e0,e1,e2,e3,e4,e5,e6,e7,e8,e9,uL,uG,vJ,vu⟩:=yy (Z HX);have c9:=Y (Z HM).box 9 rfl
 by_cases h0:g.bg=0
 ·have b0:(g.bg != 0)=false:=by simpa using h0
  rw[b0] at c9;have ka:=Q (Z bK h0 W1 (Z HM));rw[if_pos h0] at uy;clear h0 b0 bK HLA;go_wp2_with fail;refine(Z ka).mono ?_;rintro x w2 ⟨rfl,xE⟩;have xq:=Q (lW (Z HB) xE);clear xE;go_wp2_with fail;go_ret;exact⟨by rw[Z uy];rfl,Z xq⟩
 ·have b0:(g.bg != 0)=true:=by simpa using h0
  rw[b0] at c9;have ka:=Q (Z HLA W1 (Z HM));rw[if_neg h0] at uy;clear h0 b0 bK HLA;go_wp2_with fail;refine(Z ka).mono ?_;rintro x w2 ⟨rfl,xE⟩;have xq:=Q (lW (Z HB) xE);clear xE;go_wp2_with fail;go_ret;exact⟨by rw[Z uy];rfl,Z xq⟩


def FlEnd (k:Int)(w:World)(e:Ending)(w':World):Prop:=∃g,e = .returned (.slice (some (U g 0)) (fldK k).length (fldK k).length)/\w.heap.size<=g/\Bx w' g ((fldK k).map Value.bool)/\yn w w'
theorem fV (k:Int)(l:List Bool)(w:World)(t:TypeId)(h:fldK k=l):FlEnd k w (.returned (.slice (some (U w.heap.size 0)) l.length l.length)) (w.alloc (J (l.map Value.bool).toArray t)):=by
 subst h;exact⟨w.heap.size,rfl,Nat.le_refl _,zj w _ t,lT _ _⟩
theorem fields1 (w:World):Calls Tryz.prog 115 #[H 1] w fun e w'=>FlEnd 1 w e w':=by
 have HE:=Q (fV 1 (fldK 1) w 4 rfl);go_enter Tryz.func115,Tryz.ntmps115;go_wp2_with fail;go_ret;exact Z HE
theorem fields2 (w:World):Calls Tryz.prog 115 #[H 2] w fun e w'=>FlEnd 2 w e w':=by
 have HE:=Q (fV 2 (fldK 2) w 4 rfl);go_enter Tryz.func115,Tryz.ntmps115;go_wp2_with fail;go_ret;exact Z HE
theorem fields3 (w:World):Calls Tryz.prog 115 #[H 3] w fun e w'=>FlEnd 3 w e w':=by
 have HE:=Q (fV 3 (fldK 3) w 4 rfl);go_enter Tryz.func115,Tryz.ntmps115;go_wp2_with fail;go_ret;exact Z HE
theorem fields4 (w:World):Calls Tryz.prog 115 #[H 4] w fun e w'=>FlEnd 4 w e w':=by
 have HE:=Q (fV 4 (fldK 4) w 4 rfl);go_enter Tryz.func115,Tryz.ntmps115;go_wp2_with fail;go_ret;exact Z HE
theorem fields5 (w:World):Calls Tryz.prog 115 #[H 5] w fun e w'=>FlEnd 5 w e w':=by
 have HE:=Q (fV 5 (fldK 5) w 4 rfl);go_enter Tryz.func115,Tryz.ntmps115;go_wp2_with fail;go_ret;exact Z HE
theorem fields6 (w:World):Calls Tryz.prog 115 #[H 6] w fun e w'=>FlEnd 6 w e w':=by
 have HE:=Q (fV 6 (fldK 6) w 4 rfl);go_enter Tryz.func115,Tryz.ntmps115;go_wp2_with fail;go_ret;exact Z HE
theorem fields7 (w:World):Calls Tryz.prog 115 #[H 7] w fun e w'=>FlEnd 7 w e w':=by
 have HE:=Q (fV 7 (fldK 7) w 4 rfl);go_enter Tryz.func115,Tryz.ntmps115;go_wp2_with fail;go_ret;exact Z HE
theorem fields8 (w:World):Calls Tryz.prog 115 #[H 8] w fun e w'=>FlEnd 8 w e w':=by
 have HE:=Q (fV 8 (fldK 8) w 4 rfl);go_enter Tryz.func115,Tryz.ntmps115;go_wp2_with fail;go_ret;exact Z HE
theorem fields9 (w:World):Calls Tryz.prog 115 #[H 9] w fun e w'=>FlEnd 9 w e w':=by
 have HE:=Q (fV 9 (fldK 9) w 4 rfl);go_enter Tryz.func115,Tryz.ntmps115;go_wp2_with fail;go_ret;exact Z HE
theorem fieldsN (k:Int)(w:World)(h:¬ (1<=k/\k<=9)):Calls Tryz.prog 115 #[H k] w fun e w'=>FlEnd k w e w':=by
 have HE:=Q (fV k [] w 4 (by unfold fldK;rw[if_neg (by omega),if_neg (by omega),if_neg (by omega),if_neg (by omega),if_neg (by omega)]));have e1:(k==1)=false:=xd.2 (by omega);have e2:(k==2)=false:=xd.2 (by omega);have e3:(k==3)=false:=xd.2 (by omega);have e4:(k==4)=false:=xd.2 (by omega);have e5:(k==5)=false:=xd.2 (by omega);have e6:(k==6)=false:=xd.2 (by omega);have e7:(k==7)=false:=xd.2 (by omega);have e8:(k==8)=false:=xd.2 (by omega);have e9:(k==9)=false:=xd.2 (by omega);clear h;go_enter Tryz.func115,Tryz.ntmps115;go_wp2_with fail;go_ret;exact Z HE
theorem lr (k:Int)(w:World):Calls Tryz.prog 115 #[H k] w fun e w'=>FlEnd k w e w':=by
 by_cases h:1<=k/\k<=9
 ·rcases(show k=1\/k=2\/k=3\/k=4\/k=5\/k=6\/k=7\/k=8\/k=9 by omega) with rfl|rfl|rfl|rfl|rfl|rfl|rfl|rfl|rfl
  ·exact fields1 w
  ·exact fields2 w
  ·exact fields3 w
  ·exact fields4 w
  ·exact fields5 w
  ·exact fields6 w
  ·exact fields7 w
  ·exact fields8 w
  ·exact fields9 w
 ·exact fieldsN k w h


theorem mbook_any {O B:Nat}{la:Option Addr}{lc:Nat}{vd va:Value}{g:Gr}{t:Od}{kd n0:Int}{dy l0:List Od}(w:World)(h:MS O B w (.slice la g.l.length lc) vd va g t kd n0 dy l0):Calls Tryz.prog 88 #[xj O 0] w fun e w'=>e=ym (.agg #[H g.nx,.slice la g.l.length lc])/\yn w w':=by
 have hO:=h.lt;obtain⟨xA,HX⟩:=lY w [H 0,.slice none 0 0] 41;have HM:=Q (zv h xA);have HB:=Q xA;clear h xA;go_enter Tryz.func88,Tryz.ntmps88;refine lX fun ho HK=>?_;go_wp2_with fail;refine Z HK _ _ ?_;clear HK;generalize (w.alloc (J #[H 0,.slice none 0 0] 41))=W1 at HX HM HB |-;have xW:Hid (Bx W1.drew w.heap.size [H 0,.slice none 0 0]):=zm (Z HX);have uk:Hid (yn w W1.drew):=⟨(Z HB).os,(Z HB).tape,(Z HB).output,(Z HB).size,(Z HB).block⟩;have c0:W1.drew.cell? (U O 0)=some (H g.nx):=Y (Z HM).box 0 rfl;have c1:W1.drew.cell? (U O 1)=some (.slice la g.l.length lc):=Y (Z HM).box 1 rfl;go_wp2_with fail;refine zw 9 (by kernel_rfl) (by kernel_rfl) ?_;simp only[yT,List.take_zero,yU,List.drop_zero]
 repeat still_step
 refine wpStill_nil ?_;clear c0 c1 HX HM HB;generalize W1.drew=zb at xW uk |-;have z0:=Y (Z xW) 0 rfl;have z1:=Y (Z xW) 1 rfl;obtain ⟨f0,f1⟩:=r0_2 (Z xW) rfl;go_wp2_with fail
 try simp +zetaDelta only[Exit.noGoto_ret]
 change bodyPost _ _ _ _ _ (World.setCells zb w.heap.size 0 [H g.nx,.slice la g.l.length lc]);have xo:Hid ((World.setCells zb w.heap.size 0 [H g.nx,.slice la g.l.length lc]).rangeAt w.heap.size 0 [H g.nx,.slice la g.l.length lc]/\yn w (World.setCells zb w.heap.size 0 [H g.nx,.slice la g.l.length lc])):=⟨(zk (Z xW) (by simp only[List.length_cons,List.length_nil])).r,zg w.heap.size (by omega) [H g.nx,.slice la g.l.length lc] 0 zb (Z uk)⟩;generalize World.setCells zb w.heap.size 0 [H g.nx,.slice la g.l.length lc]=WE at xo |-;have d0:WE.cell? (yq w 0)=some (H g.nx):=(Z xo).1 0 _ rfl;have d1:WE.cell? (yq w 1)=some (.slice la g.l.length lc):=(Z xo).1 1 _ rfl
 try simp only[Exit.inBlock,Exit.then]
 refine bodyPost_ret (by simp[results,Tryz.results88,go_sem,d0,d1];try rfl) rfl ?_;exact⟨rfl,(Z xo).2⟩
def fltT (r:Option (Nat × Nat)):Value:=
 .tuple #[yj ((r.map fun x=>x.1).getD 0),H ((r.map fun x=>(x.2:Int)).getD 0),.bool r.isSome]
theorem fltT_none {r:Option (Nat × Nat)}(h:r=none):fltT r = .tuple #[yj 0,H 0,.bool false]:=by subst h;rfl
theorem fltT_some {r:Option (Nat × Nat)}{s n:Nat}(h:r=some (s,n)):fltT r = .tuple #[yj s,H n,.bool true]:=by subst h;rfl
theorem l01GetFlt_any (v:Value)(l:List Int)(k:Nat)(w:World)(hr:Rd w v l)(xC:dR v)(X:k<=l.length)(hl:l.length<=65536)(A:Bts l) :
  Calls Tryz.prog 164 #[v,H k] w fun e w'=>e=ym (fltT (ey l k))/\w'=w:=by
 obtain⟨a,cap,rfl,_,hc⟩:=hr;have HC:=Q hc;have HB:=Q A;have cy:=frombits;clear hc xC A
 by_cases h8:l.length<k+8
 ·have HT:=Q (fltT_none (floatA_end h8));have h8':(l.length:Int)<k+8:=by omega
  go_enter Tryz.func164,Tryz.ntmps164;go_wp2_with fail
  go_ret3
  exact⟨by rw[Z HT];rfl,rfl⟩
 have h8':(k:Int)+8<=l.length:=by omega
 have kB:=Q (fun h=>fltT_none (floatA_bad (l:=l) (k:=k) (by omega) h));have vR:=Q (fun h=>fltT_some (floatA_yes (l:=l) (k:=k) (by omega) h));obtain⟨b,off,rfl,xp⟩:=Z HC (by intro h;rw[h] at h8;simp at h8);have HCl:=Q xp;clear xp;go_enter Tryz.func164,Tryz.ntmps164;go_wp2_with fail
 go_loop [7,8] (fun uv iv=>∃i:Nat,i<=8/\iv=H i/\uv = .int .u64 (dS l k i)) (fun _ iv=>8-(intOf iv).toNat)
 case atStart=>exact⟨0,by omega,rfl,rfl⟩
 case round =>
  obtain⟨i,hi,rfl,rfl⟩:=hrel
  by_cases xH:i<8
  ·have hcx:=Z HCl (k+i) (by omega);have jm:=eQ (Z HB) (k+i);have hlt8:=bits8_lt l k (Z HB) i;have hp:256 ^ i<=72057594037927936:=yN (Nat.pow_le_pow_right (by omega) (show i<=7 by omega)) (by decide);have hor:=or8 (dS l k i) (l.getD (k+i) 0) (by omega) jm.1 jm.2;have HS:=Q (bits8_step l k i (by omega));rw[<- Z HS] at hor;have uq:(i:Int)<8:=by omega
   have hki:(k:Int)+i<l.length:=by omega
   generalize l.getD (k+i) 0=c at *;generalize hu:dS l k i=u at *;generalize hu':dS l k (i+1)=u' at *;have HU':=Q hu';clear hlt8 hp hu hu';obtain⟨jn,qV⟩:=jm;go_wp2_with fail
   go_round
   case rel=>exact⟨i+1,by omega,by go_num,by rw[Z HU']⟩
   case measure=>simp[intOf];omega
  ·obtain rfl:i=8:=by omega
   generalize dS l k 8=u at *
   by_cases ut:nanB u=true/\u≠9221120237041090560
   ·have HT:=Q (Z kB ut);have hf:fbit u=9221120237041090560:=if_pos ut.1;have xy:(((fbit u:Nat):Int) != (u:Int))=true:=by rw[hf,bne_iff_ne];omega
    have HL:=Q (fun w=>bitsS_any u w);clear hf ut;generalize fbit u=f at *;go_wp2_with (go_at_call 201;refine(Z HL _).mono ?_;rintro e w' ⟨rfl,rfl⟩)
    go_ret3
    exact⟨by rw[Z HT];rfl,rfl⟩
   ·have HT:=Q (Z vR ut)
    have hf:fbit u=u:=by
     unfold fbit;split
     ·rename_i h;by_cases e:u=9221120237041090560
      ·exact e.symm
      ·exact absurd ⟨h,e⟩ ut
     ·rfl
    have HL:=Q (fun w=>bitsS_any u w);rw[hf] at HL;clear hf ut;go_wp2_with (go_at_call 201;refine(Z HL _).mono ?_;rintro e w' ⟨rfl,rfl⟩)
    go_ret3
    exact⟨by rw[Z HT];rfl,rfl⟩
theorem unz_neg (u:Nat)(h:u % 2=1)(D:u<18446744073709551616):bits .xor .i64 (-1) ((u:Int) / 2)=unz u:=by
 have e:(u:Int) / 2=((u / 2:Nat):Int):=by omega
 rw[e,Lib.i64_not _ (by omega)];unfold unz;rw[if_pos h]
theorem unz_pos (u:Nat)(h:¬ u % 2=1):(u:Int) / 2=unz u:=by
 unfold unz;rw[if_neg h];omega
def getT (r:Option (Nat × Nat)):Value:=
 .tuple #[H ((r.map fun x=>unz x.1).getD 0),H ((r.map fun x=>(x.2:Int)).getD 0),.bool r.isSome]
theorem iA {r:Option (Nat × Nat)}(h:r=none):getT r = .tuple #[H 0,H 0,.bool false]:=by subst h;rfl
theorem iX {r:Option (Nat × Nat)}{u n:Nat}(h:r=some (u,n)):getT r = .tuple #[H (unz u),H n,.bool true]:=by subst h;rfl
theorem l01Get_any (v:Value)(l:List Int)(k:Nat)(w:World)(hr:Rd w v l)(X:k<=l.length)(hl:l.length<=65536)(A:Bts l) :
  Calls Tryz.prog 78 #[v,H k] w fun e w'=>e=ym (getT (getU l k))/\w'=w:=by
 obtain⟨a,cap,rfl,_,hc⟩:=hr;have HC:=Q hc;have HB:=Q A;clear hc A;go_enter Tryz.func78,Tryz.ntmps78;go_wp2_with fail
 go_loop [7,8] (fun uv iv=>∃i u:Nat,uv = .int .u64 u/\iv=H i/\i<=9/\u<128 ^ i/\scan l k (10-i) i u=getU l k/\k+i<=l.length) (fun _ iv=>10-(intOf iv).toNat)
 case atStart=>exact⟨0,0,rfl,rfl,by omega,by decide,rfl,by omega⟩
 case round =>
  obtain⟨i,u,rfl,rfl,hi,hu,hs,hki⟩:=hrel;have HS:=Q hs;have HU:=Q hu;clear hs hu
  by_cases uN:k+i<l.length
  ·obtain⟨b,off,rfl,xp⟩:=Z HC (by intro h;rw[h] at uN;simp at uN);have hcx:=xp (k+i) uN;have jm:=eQ (Z HB) (k+i);have HE:=Q (fun h=>scan_bad l k i u hi uN h);have HY:=Q (fun D E=>scan_yes l k i u hi uN D E);have HN:=Q (fun D E=>scan_next l k i u hi uN D E);generalize l.getD (k+i) 0=c at *;obtain⟨jn,qV⟩:=jm;clear xp
   by_cases ut:(i=9/\1<c)\/(0<i/\c=0)
   ·have kB:=Q (iA ((Z HS).symm.trans (Z HE ut)))
    have vG:(((i:Int)==9)=true/\1<c)\/(((i:Int)==9)=true/\c<=1/\0<(i:Int)/\(c==0)=true)\/(((i:Int)==9)=false/\0<(i:Int)/\(c==0)=true):=by
     simp only[xd,beq_iff_eq];omega
    clear ut;rcases vG with⟨D,E⟩|⟨D,E,h3,h4⟩|⟨D,E,h3⟩
    all_goals
     go_wp2_with fail
     go_ret3
     exact⟨by rw[Z kB];rfl,rfl⟩
   ·have h9:i=9->c<=1:=fun h=>by omega
    have hor:=or_step c i u hi (Z HU) jn qV h9;have xH:=step_lt c i u hi (Z HU) jn qV h9;have hand:=and127b c jn qV;have h7:7*(i:Int)<=63:=by omega
    have vG:(((i:Int)==9)=false/\(i:Int)<=0)\/(((i:Int)==9)=false/\0<(i:Int)/\(c==0)=false)\/(((i:Int)==9)=true/\0<(i:Int)/\(c==0)=false/\c<=1):=by
     simp only[xd,beq_iff_eq];omega
    by_cases hc:c<128
    ·have vR:=Q (iX ((Z HS).symm.trans (Z HY ut hc)));have HLt:=Q xH.1;clear ut xH h9;generalize u+(c % 128).toNat*128 ^ i=u' at *;have hu0:(0:Int)<=(u':Int) / 2:=by omega
     have hu1:(u':Int) / 2<=9223372036854775807:=by have:=Z HLt;omega
     by_cases hodd:u' % 2=1
     ·have ha1:bits .and .u64 (u':Int) 1=1:=by rw[and1 u' (Z HLt),hodd];rfl
      have HV:=Q (unz_neg u' hodd (Z HLt));clear hodd;rcases vG with⟨D,E⟩|⟨D,E,h3⟩|⟨D,E,h3,h4⟩
      all_goals
       go_wp2_with fail
       go_ret3
       refine⟨?_,rfl⟩;rw[Z vR,<- Z HV];rfl
     ·have ha1:bits .and .u64 (u':Int) 1=0:=by rw[and1 u' (Z HLt),show u' % 2=0 by omega];rfl
      have HV:=Q (unz_pos u' hodd);clear hodd;rcases vG with⟨D,E⟩|⟨D,E,h3⟩|⟨D,E,h3,h4⟩
      all_goals
       go_wp2_with fail
       go_ret3
       refine⟨?_,rfl⟩;rw[Z vR,<- Z HV];rfl
    ·have aD:=Q (Z HN ut (by omega));have HLt:=Q xH.2;have hi9:i<=8:=by omega
     clear ut xH h9;generalize u+(c % 128).toNat*128 ^ i=u' at *;rcases vG with⟨D,E⟩|⟨D,E,h3⟩|⟨D,E,h3,h4⟩
     ·go_wp2_with fail
      go_round
      case rel=>exact⟨i+1,u',rfl,by go_num,by omega,Z HLt,(Z aD).symm.trans (Z HS),by omega⟩
      case measure=>simp[intOf];omega
     ·go_wp2_with fail
      go_round
      case rel=>exact⟨i+1,u',rfl,by go_num,by omega,Z HLt,(Z aD).symm.trans (Z HS),by omega⟩
      case measure=>simp[intOf];omega
     ·omega
  ·have HNo:=Q (iA ((Z HS).symm.trans (scan_end _ _ _ _ hi (by omega))));go_wp2_with fail
   go_ret3
   exact⟨by rw[Z HNo];rfl,rfl⟩
end Go.Proofs.YtbghmldggahjiaaGreatDoor
