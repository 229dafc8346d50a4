/-.-/
import Derived.Test.YtbghmldggahjiaaGreatDoorUj38
import Derived.Lib.QuietBelow
set_option linter.unusedVariables false
set_option maxHeartbeats 6400000
set_option maxRecDepth 100000
namespace Go.Proofs.YtbghmldggahjiaaGreatDoor
open Go.RowKit
theorem mdue_any {O B:Nat}{vl vd va:Value}{g:Gr}{t:Od}{kd n0:Int}{dy l0:List Od}(w:World)(h:MS O B w vl vd va g t kd n0 dy l0)(hi:GI g)(hm:MR g t kd dy):Calls Tryz.prog 87 #[xj O 0] w fun e w'=>e = .returned (duV (dueG g))/\yn w w':=by
 have hsf:=sfl;have hO:=h.lt;rw[<- dueM_eq hi hm];have xD:g.l.length<=1000:=yN hi.len (by decide);have oS:0<=t.left:=by rw[hm.left];exact hi.l0
 have vn:Hid (∀W,RdR Od.vs 6 W vl g.l->Calls Tryz.prog 125 #[vl,.agg (yw t.id t.side t.ticks t.left t.life t.tag).toArray] W fun e w'=>∃k:Int,e = .returned (H k)/\NexS g.l t k/\yn W w'):=fun W hW=>by
  by_cases h0:t.left=0
  ·exact l04Next_none vl g.l t W hW hi.rise xD hm.side h0
  ·have D:g.tk.left≠0:=by rw[<- hm.left];exact h0
   have E:g.bg=1:=Classical.byContradiction fun h3=>D (hi.free h3);refine lG vl g.l t W hW hi.rise xD ?_;rw[hm.same D,((hi.acc E).2.2 D).1];exact side_of (hi.acc E).1
 obtain⟨xA,HX⟩:=lY w [H 0,H 0,H 0,H 0,H 0] 123;have HS:Hid ((w.alloc (J #[H 0,H 0,H 0,H 0,H 0] 123)).heap.size=w.heap.size+1):=by show _ = _;simp
 have HM:=Q (zv h xA);have HB:=Q xA;clear h xA hi hm;obtain⟨ti,pN,tt,tl,uY,tg⟩:=t;simp only at oS vn;go_enter Tryz.func87,Tryz.ntmps87;refine lX fun ho HK=>?_;go_wp2_with fail;refine Z HK _ _ ?_;clear HK;generalize (w.alloc (J #[H 0,H 0,H 0,H 0,H 0] 123))=W1 at HX HS HM HB |-;have xF:=Q (Z HX);have xT:=Q (Z HM);have xq:=Q (Z HB);have xW:Hid (Bx W1.drew w.heap.size [H 0,H 0,H 0,H 0,H 0]):=zm (Z xF);have qq:Hid (MS O B W1.drew vl vd va g ⟨ti,pN,tt,tl,uY,tg⟩ kd n0 dy l0):=zv (Z xT) ⟨rfl,rfl,rfl,Nat.le_refl _,fun _ _=>rfl⟩;have uk:Hid (yn w W1.drew):=⟨(Z xq).os,(Z xq).tape,(Z xq).output,(Z xq).size,(Z xq).block⟩;have c1:=Y (Z qq).box 1 rfl;have c2:=Y (Z qq).box 2 rfl;have c3:=Y (Z qq).box 3 rfl;have c4:=Y (Z qq).box 4 rfl;have c5:=Y (Z qq).box 5 rfl;have c6:=Y (Z qq).box 6 rfl;have c7:=Y (Z qq).box 7 rfl;have hSD:w.heap.size<W1.drew.heap.size:=by show w.heap.size<W1.heap.size;have:=Z HS;omega
 have uU:=Q (zP (Z qq).row (yN xD (by decide)));go_wp2_with fail;refine zw 8 (by kernel_rfl) (by kernel_rfl) ?_;simp only[yT,List.take_zero,yU,List.drop_zero]
 repeat still_step
 refine wpStill_nil ?_;go_wp2_with fail;refine(Z vn W1.drew (Z uU)).mono ?_;rintro e w2 ⟨k,rfl,hN,xE⟩;have uz:=Q (zf (Z xW) xE hSD);have ox:=Q (zv (Z qq) xE);have xZ:=Q (lW (Z uk) xE);clear xE c1 c2 c3 c4 c5 c6 c7 HX HM HB xF xT xq xW qq uk uU HS hSD vn;have xF:=Q (Z uz);have xT:=Q (Z ox);have xq:=Q (Z xZ);clear uz ox xZ;rcases hN with⟨rfl,vG⟩|⟨i,o,rfl,hil,kO,bB,bx,xy⟩
 ·by_cases h0:tl=0
  ·have HD:Hid (dueM g.l ⟨ti,pN,tt,tl,uY,tg⟩ kd dy=match dy with|o :: _=>⟨9,o.id,0,o.left,0⟩ | []=>zDu):=by show _ = _;unfold dueM;rw[if_neg (by simpa using h0)];cases dy <;> rfl
   have hp:¬ (0<tl):=by omega
   clear vG h0;have c5:=Y (Z xT).box 5 rfl;have c10:=Y (Z xT).box 10 rfl;obtain⟨a,cap,rfl,cx,hdc⟩:=(Z xT).days;cases dy with
   | nil =>
    simp only[List.length_nil] at c10 |-;obtain ⟨z0,z1,z2,z3,z4⟩:=q0_5 (Z xF) rfl;obtain ⟨f0,f1,f2,f3,f4⟩:=r0_5 (Z xF) rfl;go_wp2_with fail
    try simp +zetaDelta only[Exit.noGoto_ret]
    change bodyPost _ _ _ _ _ (World.setCells w2 w.heap.size 0 [H 0,H 0,H 0,H 0,H 0]);have xo:Hid ((World.setCells w2 w.heap.size 0 [H 0,H 0,H 0,H 0,H 0]).rangeAt w.heap.size 0 [H 0,H 0,H 0,H 0,H 0]/\yn w (World.setCells w2 w.heap.size 0 [H 0,H 0,H 0,H 0,H 0])):=⟨(zk (Z xF) (by simp only[List.length_cons,List.length_nil])).r,zg w.heap.size (by omega) [H 0,H 0,H 0,H 0,H 0] 0 w2 (Z xq)⟩;generalize World.setCells w2 w.heap.size 0 [H 0,H 0,H 0,H 0,H 0]=WE at xo |-;obtain⟨d0,d1,d2,d3,d4⟩:=yB (Z xo).1
    try simp only[Exit.inBlock,Exit.then]
    refine bodyPost_ret (by simp[results,Tryz.results87,go_sem,d0,d1,d2,d3,d4];try rfl) rfl ?_;exact⟨by rw[Z HD];rfl,(Z xo).2⟩
   | cons o dr =>
    obtain⟨b,off,rfl,oP,xm⟩:=hdc (by simp);have hlp:(0:Int)<((o::dr).length:Int):=by rw[List.length_cons];omega
    have hlp2:((0:Nat):Int)<((o::dr).length:Int):=by rw[List.length_cons];omega
    obtain⟨y0,-,-,y3,-,-⟩:=zM (xm 0 o rfl);simp only[Nat.zero_mul,Nat.add_zero] at y0 y3;generalize (o::dr).length=dn at c10 hlp hlp2;have xW:Hid (Bx w2.drew w.heap.size [H 0,H 0,H 0,H 0,H 0]):=zm (Z xF);have uk:Hid (yn w w2.drew):=⟨(Z xq).os,(Z xq).tape,(Z xq).output,(Z xq).size,(Z xq).block⟩;go_wp2_with fail;have jq:w2.drew.cell? (U O 10) = _:=c10;have y0d:w2.drew.cell? (U b off)=some (H o.id):=y0;have y3d:w2.drew.cell? (U b (off+3))=some (H o.left):=y3;refine zw 15 (by kernel_rfl) (by kernel_rfl) ?_;simp only[yT,List.take_zero,yU,List.drop_zero]
    repeat still_step
    refine wpStill_nil ?_;clear jq y0d y3d y0 y3 c5 c10 xF xT xq;generalize w2.drew=zb at xW uk |-;obtain ⟨z0,z1,z2,z3,z4⟩:=q0_5 (Z xW) rfl;obtain ⟨f0,f1,f2,f3,f4⟩:=r0_5 (Z xW) rfl;go_wp2_with fail
    try simp +zetaDelta only[Exit.noGoto_ret]
    change bodyPost _ _ _ _ _ (World.setCells zb w.heap.size 0 [H 9,H o.id,H 0,H o.left,H 0]);have xo:Hid ((World.setCells zb w.heap.size 0 [H 9,H o.id,H 0,H o.left,H 0]).rangeAt w.heap.size 0 [H 9,H o.id,H 0,H o.left,H 0]/\yn w (World.setCells zb w.heap.size 0 [H 9,H o.id,H 0,H o.left,H 0])):=⟨(zk (Z xW) (by simp only[List.length_cons,List.length_nil])).r,zg w.heap.size (by omega) [H 9,H o.id,H 0,H o.left,H 0] 0 zb (Z uk)⟩;generalize World.setCells zb w.heap.size 0 [H 9,H o.id,H 0,H o.left,H 0]=WE at xo |-;obtain⟨d0,d1,d2,d3,d4⟩:=yB (Z xo).1
    try simp only[Exit.inBlock,Exit.then]
    refine bodyPost_ret (by simp[results,Tryz.results87,go_sem,d0,d1,d2,d3,d4];try rfl) rfl ?_;exact⟨by rw[Z HD];rfl,(Z xo).2⟩
  ·have HD:Hid (dueM g.l ⟨ti,pN,tt,tl,uY,tg⟩ kd dy=⟨if dP kd=true then 4 else 5,ti,0,tl,0⟩):=by
    show _ = _;unfold dueM;rw[if_pos (by simpa using h0)];rcases vG with D|D|⟨o,D,E⟩
    ·exact absurd D h0
    ·rw[D];rfl
    ·rw[D];simp only[E];rfl
   have hp:0<tl:=by omega
   clear vG h0;have c2:=Y (Z xT).box 2 rfl;have c5:=Y (Z xT).box 5 rfl;have c8:=Y (Z xT).box 8 rfl;cases hre:dP kd
   ·have HD2:=Q (Z HD);rw[hre,if_neg (by simp)] at HD2;have vM:Hid (∀W,Calls Tryz.prog 126 #[H kd] W fun e w'=>e = .returned (.bool false)/\w'=W):=fun W=>by rw[<- hre];exact iu kd W
    clear hre HD;go_wp2_with fail;refine(Z vM w2).mono ?_;rintro e w3 ⟨rfl,hw3⟩;rw[hw3];clear hw3;have xW:Hid (Bx w2.drew w.heap.size [H 0,H 0,H 0,H 0,H 0]):=zm (Z xF);have uk:Hid (yn w w2.drew):=⟨(Z xq).os,(Z xq).tape,(Z xq).output,(Z xq).size,(Z xq).block⟩;go_wp2_with fail;have d2:w2.drew.cell? (U O 2) = _:=c2;have d5:w2.drew.cell? (U O 5) = _:=c5;refine zw 12 (by kernel_rfl) (by kernel_rfl) ?_;simp only[yT,List.take_zero,yU,List.drop_zero]
    repeat still_step
    refine wpStill_nil ?_;clear d2 d5 c2 c5 c8 xF xT xq vM;generalize w2.drew=zb at xW uk |-;obtain ⟨z0,z1,z2,z3,z4⟩:=q0_5 (Z xW) rfl;obtain ⟨f0,f1,f2,f3,f4⟩:=r0_5 (Z xW) rfl;go_wp2_with fail
    try simp +zetaDelta only[Exit.noGoto_ret]
    change bodyPost _ _ _ _ _ (World.setCells zb w.heap.size 0 [H 5,H ti,H 0,H tl,H 0]);have xo:Hid ((World.setCells zb w.heap.size 0 [H 5,H ti,H 0,H tl,H 0]).rangeAt w.heap.size 0 [H 5,H ti,H 0,H tl,H 0]/\yn w (World.setCells zb w.heap.size 0 [H 5,H ti,H 0,H tl,H 0])):=⟨(zk (Z xW) (by simp only[List.length_cons,List.length_nil])).r,zg w.heap.size (by omega) [H 5,H ti,H 0,H tl,H 0] 0 zb (Z uk)⟩;generalize World.setCells zb w.heap.size 0 [H 5,H ti,H 0,H tl,H 0]=WE at xo |-;obtain⟨d0,d1,d2,d3,d4⟩:=yB (Z xo).1
    try simp only[Exit.inBlock,Exit.then]
    refine bodyPost_ret (by simp[results,Tryz.results87,go_sem,d0,d1,d2,d3,d4];try rfl) rfl ?_;exact⟨by rw[Z HD2];rfl,(Z xo).2⟩
   ·have HD2:=Q (Z HD);rw[hre,if_pos rfl] at HD2;have vM:Hid (∀W,Calls Tryz.prog 126 #[H kd] W fun e w'=>e = .returned (.bool true)/\w'=W):=fun W=>by rw[<- hre];exact iu kd W
    clear hre HD;go_wp2_with fail;refine(Z vM w2).mono ?_;rintro e w3 ⟨rfl,hw3⟩;rw[hw3];clear hw3;have xW:Hid (Bx w2.drew w.heap.size [H 0,H 0,H 0,H 0,H 0]):=zm (Z xF);have uk:Hid (yn w w2.drew):=⟨(Z xq).os,(Z xq).tape,(Z xq).output,(Z xq).size,(Z xq).block⟩;go_wp2_with fail;have d2:w2.drew.cell? (U O 2) = _:=c2;have d5:w2.drew.cell? (U O 5) = _:=c5;refine zw 12 (by kernel_rfl) (by kernel_rfl) ?_;simp only[yT,List.take_zero,yU,List.drop_zero]
    repeat still_step
    refine wpStill_nil ?_;clear d2 d5 c2 c5 c8 xF xT xq vM;generalize w2.drew=zb at xW uk |-;obtain ⟨z0,z1,z2,z3,z4⟩:=q0_5 (Z xW) rfl;obtain ⟨f0,f1,f2,f3,f4⟩:=r0_5 (Z xW) rfl;go_wp2_with fail
    try simp +zetaDelta only[Exit.noGoto_ret]
    change bodyPost _ _ _ _ _ (World.setCells zb w.heap.size 0 [H 4,H ti,H 0,H tl,H 0]);have xo:Hid ((World.setCells zb w.heap.size 0 [H 4,H ti,H 0,H tl,H 0]).rangeAt w.heap.size 0 [H 4,H ti,H 0,H tl,H 0]/\yn w (World.setCells zb w.heap.size 0 [H 4,H ti,H 0,H tl,H 0])):=⟨(zk (Z xW) (by simp only[List.length_cons,List.length_nil])).r,zg w.heap.size (by omega) [H 4,H ti,H 0,H tl,H 0] 0 zb (Z uk)⟩;generalize World.setCells zb w.heap.size 0 [H 4,H ti,H 0,H tl,H 0]=WE at xo |-;obtain⟨d0,d1,d2,d3,d4⟩:=yB (Z xo).1
    try simp only[Exit.inBlock,Exit.then]
    refine bodyPost_ret (by simp[results,Tryz.results87,go_sem,d0,d1,d2,d3,d4];try rfl) rfl ?_;exact⟨by rw[Z HD2];rfl,(Z xo).2⟩
 ·have HD:Hid (dueM g.l ⟨ti,pN,tt,tl,uY,tg⟩ kd dy=⟨3,ti,o.id,min tl o.left,o.ticks⟩):=by
   show _ = _;unfold dueM;rw[if_pos (by simpa using xy),bB];simp only[bx];rfl
  generalize hq:min tl o.left=q at HD
  have hmin:∀W,(Builtin.min_ #[3,3] 3 #[H tl,H o.left]).run Tryz.prog W = .ok (H q) W:=fun W=>by
   rw[<- hq]
   by_cases uB:tl<=o.left
   ·rw[Int.min_eq_left uB];go_simp;omega
   ·rw[Int.min_eq_right (by omega)];go_simp
  obtain⟨a,cap,rfl,cx,hdc⟩:=zP (Z xT).row (yN xD (by decide));obtain⟨b,off,rfl,oP,xm⟩:=hdc (by intro h;rw[h] at kO;simp at kO);obtain⟨y0,-,y2,y3,-,-⟩:=zM (xm i o kO);have hil':(i:Int)<g.l.length:=by omega
  have vA:(0:Int)<=i:=by omega
  have c1:=Y (Z xT).box 1 rfl;have c2:=Y (Z xT).box 2 rfl;have c5:=Y (Z xT).box 5 rfl;clear bB bx xy hq kO xm hdc hil;have xW:Hid (Bx w2.drew w.heap.size [H 0,H 0,H 0,H 0,H 0]):=zm (Z xF);have uk:Hid (yn w w2.drew):=⟨(Z xq).os,(Z xq).tape,(Z xq).output,(Z xq).size,(Z xq).block⟩;go_wp2_with fail;have d1:w2.drew.cell? (U O 1) = _:=c1;have d2:w2.drew.cell? (U O 2) = _:=c2;have d5:w2.drew.cell? (U O 5) = _:=c5;have y0d:w2.drew.cell? (U b (off+i*6))=some (H o.id):=y0;have y2d:w2.drew.cell? (U b (off+i*6+2))=some (H o.ticks):=y2;have y3d:w2.drew.cell? (U b (off+i*6+3))=some (H o.left):=y3;refine zw 36 (by kernel_rfl) (by kernel_rfl) ?_;simp only[yT,List.take_zero,yU,List.drop_zero]
  repeat still_step
  refine wpStill_nil ?_;clear d1 d2 d5 y0d y2d y3d y0 y2 y3 c1 c2 c5 xF xT xq;generalize w2.drew=zb at xW uk |-;obtain ⟨z0,z1,z2,z3,z4⟩:=q0_5 (Z xW) rfl;obtain ⟨f0,f1,f2,f3,f4⟩:=r0_5 (Z xW) rfl;go_wp2_with fail
  try simp +zetaDelta only[Exit.noGoto_ret]
  change bodyPost _ _ _ _ _ (World.setCells zb w.heap.size 0 [H 3,H ti,H o.id,H q,H o.ticks]);have xo:Hid ((World.setCells zb w.heap.size 0 [H 3,H ti,H o.id,H q,H o.ticks]).rangeAt w.heap.size 0 [H 3,H ti,H o.id,H q,H o.ticks]/\yn w (World.setCells zb w.heap.size 0 [H 3,H ti,H o.id,H q,H o.ticks])):=⟨(zk (Z xW) (by simp only[List.length_cons,List.length_nil])).r,zg w.heap.size (by omega) [H 3,H ti,H o.id,H q,H o.ticks] 0 zb (Z uk)⟩;generalize World.setCells zb w.heap.size 0 [H 3,H ti,H o.id,H q,H o.ticks]=WE at xo |-;obtain⟨d0,d1,d2,d3,d4⟩:=yB (Z xo).1
  try simp only[Exit.inBlock,Exit.then]
  refine bodyPost_ret (by simp[results,Tryz.results87,go_sem,d0,d1,d2,d3,d4];try rfl) rfl ?_;exact⟨by rw[Z HD];rfl,(Z xo).2⟩
theorem gS (k:Int)(w:World)(X:1<=k/\k<=9):Calls Tryz.prog 166 #[H k] w fun e w'=>e = .returned (.bool (zR k))/\w'=w:=by
 rcases(show k=1\/k=2\/k=3\/k=4\/k=5\/k=6\/k=7\/k=8\/k=9 by omega) with rfl|rfl|rfl|rfl|rfl|rfl|rfl|rfl|rfl
 all_goals
  clear X;go_enter Tryz.func166,Tryz.ntmps166;go_wp2_with fail;go_ret;exact⟨rfl,rfl⟩
theorem later_any {O B:Nat}{vl vd va:Value}{g:Gr}{t:Od}{kd n0:Int}{dy l0:List Od}(e:Ev)(w:World)(h:MS O B w vl vd va g t kd n0 dy l0)(hi:GI g)(hm:MR g t kd dy)(X:1<=e.kind/\e.kind<=9):Calls Tryz.prog 119 #[xj O 0,evV e] w fun x w'=>x = .returned (H (latM (dueG g) e))/\yn w w':=by
 have hsf:=sfl;have ai:=Q (fun W (hW:MS O B W vl vd va g t kd n0 dy l0)=>mdue_any W hW hi hm);have qO:=Q (fun W=>gS e.kind W X);generalize dueG g=d at ai |-;have ow:Hid (latM d e=if zR e.kind=true then 3 else if d.kind=0 then 8 else if d.kind=9\/e.kind=9 then(if ((e.kind==d.kind)&&((e.id==d.id)&&(e.qty==d.qty)))=true then 0 else 14) else if d.kind≠3 then(if e.kind=3 then 9 else if ((e.kind==d.kind)&&((e.id==d.id)&&(e.qty==d.qty)))=true then 0 else 13) else if e.kind≠3 then 13 else if e.id≠d.id then 9 else if e.other≠d.other then 10 else if e.price≠d.price then 11 else if e.qty≠d.qty then 12 else 0):=rfl
 generalize latM d e=lm at ow |-;generalize zR e.kind=sb at qO ow;obtain⟨xl,⟨ck,cs,ct,cl,cq,ci,cp,cg⟩,id,xh,qty,xi,xg⟩:=e;obtain⟨dk,di,dt,dq,dp⟩:=d;unfold duV at ai;unfold evV;simp only at ai qO ow |-;obtain⟨xA,HX⟩:=lY w (yv xl ck cs ct cl cq ci cp cg id xh qty xi xg) 89;have HS:Hid ((w.alloc (J (yv xl ck cs ct cl cq ci cp cg id xh qty xi xg).toArray 89)).heap.size=w.heap.size+1):=by show _ = _;simp
 have HM:=Q (zv h xA);have HB:=Q xA;clear h xA hi hm X;go_enter Tryz.func119,Tryz.ntmps119;refine lX fun ho HK=>?_;go_wp2_with fail;refine Z HK _ _ ?_;clear HK;generalize (w.alloc (J (yv xl ck cs ct cl cq ci cp cg id xh qty xi xg).toArray 89))=W1 at HS HX HM HB |-;go_wp2_with fail;refine(Z ai W1 (Z HM)).mono ?_;rintro e w2 ⟨rfl,xE⟩;obtain⟨xz,qg⟩:=lY w2 [H dk,H di,H dt,H dq,H dp] 123;have hb24:=xE.trans (xz.mono xE.size);have xw:=Q (zf (Z HX) hb24 (by have:=Z HS;omega));have xK:=Q (lW (Z HB) hb24);clear xE xz hb24 HX HM HB HS ai;have e0:=Y (Z xw) 0 rfl;go_wp2_with fail;generalize (w2.alloc (J #[H dk,H di,H dt,H dq,H dp] 123))=hk at xw xK qg e0 |-;refine(Z qO hk).mono ?_;rintro e X2 ⟨rfl,hX2⟩;rw[<- hX2] at xw xK qg e0;clear hX2 qO;have e9:=Y (Z xw) 9 rfl;have uL:=Y (Z xw) 10 rfl;have uG:=Y (Z xw) 11 rfl;have vJ:=Y (Z xw) 12 rfl;obtain ⟨v0,v1,v2,v3,v4⟩:=q0_5 (Z qg) rfl;cases sb
 ·by_cases hd0:dk=0
  ·have f_hd0:(dk==0)=true:=by simpa using hd0
   have HQ:Hid (lm=8):=by show _ = _;rw[Z ow];grind
   clear hd0;go_wp2_with fail;go_ret;exact⟨by rw[Z HQ];rfl,Z xK⟩
  ·have f_hd0:(dk==0)=false:=by simpa using hd0
   by_cases hd9:dk=9
   ·have f_hd9:(dk==9)=true:=by simpa using hd9
    by_cases jP:xl=dk
    ·have aH:(xl != dk)=false:=by simpa using jP
     by_cases uf:id=di
     ·have oM:(id != di)=false:=by simpa using uf
      by_cases hqd:qty=dq
      ·have oN:(qty != dq)=false:=by simpa using hqd
       have HQ:Hid (lm=0):=by show _ = _;rw[Z ow];grind
       clear hd0 hd9 jP uf hqd;go_wp2_with fail;go_ret;exact⟨by rw[Z HQ];rfl,Z xK⟩
      ·have oN:(qty != dq)=true:=by simpa using hqd
       have HQ:Hid (lm=14):=by show _ = _;rw[Z ow];grind
       clear hd0 hd9 jP uf hqd;go_wp2_with fail;go_ret;exact⟨by rw[Z HQ];rfl,Z xK⟩
     ·have oM:(id != di)=true:=by simpa using uf
      have HQ:Hid (lm=14):=by show _ = _;rw[Z ow];grind
      clear hd0 hd9 jP uf;go_wp2_with fail;go_ret;exact⟨by rw[Z HQ];rfl,Z xK⟩
    ·have aH:(xl != dk)=true:=by simpa using jP
     have HQ:Hid (lm=14):=by show _ = _;rw[Z ow];grind
     clear hd0 hd9 jP;go_wp2_with fail;go_ret;exact⟨by rw[Z HQ];rfl,Z xK⟩
   ·have f_hd9:(dk==9)=false:=by simpa using hd9
    by_cases qE:xl=9
    ·have f_hk9:(xl==9)=true:=by simpa using qE
     by_cases jP:xl=dk
     ·have aH:(xl != dk)=false:=by simpa using jP
      by_cases uf:id=di
      ·have oM:(id != di)=false:=by simpa using uf
       by_cases hqd:qty=dq
       ·have oN:(qty != dq)=false:=by simpa using hqd
        have HQ:Hid (lm=0):=by show _ = _;rw[Z ow];grind
        clear hd0 hd9 qE jP uf hqd;go_wp2_with fail;go_ret;exact⟨by rw[Z HQ];rfl,Z xK⟩
       ·have oN:(qty != dq)=true:=by simpa using hqd
        have HQ:Hid (lm=14):=by show _ = _;rw[Z ow];grind
        clear hd0 hd9 qE jP uf hqd;go_wp2_with fail;go_ret;exact⟨by rw[Z HQ];rfl,Z xK⟩
      ·have oM:(id != di)=true:=by simpa using uf
       have HQ:Hid (lm=14):=by show _ = _;rw[Z ow];grind
       clear hd0 hd9 qE jP uf;go_wp2_with fail;go_ret;exact⟨by rw[Z HQ];rfl,Z xK⟩
     ·have aH:(xl != dk)=true:=by simpa using jP
      have HQ:Hid (lm=14):=by show _ = _;rw[Z ow];grind
      clear hd0 hd9 qE jP;go_wp2_with fail;go_ret;exact⟨by rw[Z HQ];rfl,Z xK⟩
    ·have f_hk9:(xl==9)=false:=by simpa using qE
     by_cases hd3:dk=3
     ·have g_hd3:(dk != 3)=false:=by simpa using hd3
      by_cases je:xl=3
      ·have f_hk3:(xl==3)=true:=by simpa using je
       have g_hk3:(xl != 3)=false:=by simpa using je
       by_cases uf:id=di
       ·have oM:(id != di)=false:=by simpa using uf
        by_cases hot:xh=dt
        ·have g_hot:(xh != dt)=false:=by simpa using hot
         by_cases hpr:xi=dp
         ·have g_hpr:(xi != dp)=false:=by simpa using hpr
          by_cases hqd:qty=dq
          ·have oN:(qty != dq)=false:=by simpa using hqd
           have HQ:Hid (lm=0):=by show _ = _;rw[Z ow];grind
           clear hd0 hd9 qE hd3 je uf hot hpr hqd;go_wp2_with fail;go_ret;exact⟨by rw[Z HQ];rfl,Z xK⟩
          ·have oN:(qty != dq)=true:=by simpa using hqd
           have HQ:Hid (lm=12):=by show _ = _;rw[Z ow];grind
           clear hd0 hd9 qE hd3 je uf hot hpr hqd;go_wp2_with fail;go_ret;exact⟨by rw[Z HQ];rfl,Z xK⟩
         ·have g_hpr:(xi != dp)=true:=by simpa using hpr
          have HQ:Hid (lm=11):=by show _ = _;rw[Z ow];grind
          clear hd0 hd9 qE hd3 je uf hot hpr;go_wp2_with fail;go_ret;exact⟨by rw[Z HQ];rfl,Z xK⟩
        ·have g_hot:(xh != dt)=true:=by simpa using hot
         have HQ:Hid (lm=10):=by show _ = _;rw[Z ow];grind
         clear hd0 hd9 qE hd3 je uf hot;go_wp2_with fail;go_ret;exact⟨by rw[Z HQ];rfl,Z xK⟩
       ·have oM:(id != di)=true:=by simpa using uf
        have HQ:Hid (lm=9):=by show _ = _;rw[Z ow];grind
        clear hd0 hd9 qE hd3 je uf;go_wp2_with fail;go_ret;exact⟨by rw[Z HQ];rfl,Z xK⟩
      ·have f_hk3:(xl==3)=false:=by simpa using je
       have g_hk3:(xl != 3)=true:=by simpa using je
       have HQ:Hid (lm=13):=by show _ = _;rw[Z ow];grind
       clear hd0 hd9 qE hd3 je;go_wp2_with fail;go_ret;exact⟨by rw[Z HQ];rfl,Z xK⟩
     ·have g_hd3:(dk != 3)=true:=by simpa using hd3
      by_cases je:xl=3
      ·have f_hk3:(xl==3)=true:=by simpa using je
       have g_hk3:(xl != 3)=false:=by simpa using je
       have HQ:Hid (lm=9):=by show _ = _;rw[Z ow];grind
       clear hd0 hd9 qE hd3 je;go_wp2_with fail;go_ret;exact⟨by rw[Z HQ];rfl,Z xK⟩
      ·have f_hk3:(xl==3)=false:=by simpa using je
       have g_hk3:(xl != 3)=true:=by simpa using je
       by_cases jP:xl=dk
       ·have aH:(xl != dk)=false:=by simpa using jP
        by_cases uf:id=di
        ·have oM:(id != di)=false:=by simpa using uf
         by_cases hqd:qty=dq
         ·have oN:(qty != dq)=false:=by simpa using hqd
          have HQ:Hid (lm=0):=by show _ = _;rw[Z ow];grind
          clear hd0 hd9 qE hd3 je jP uf hqd;go_wp2_with fail;go_ret;exact⟨by rw[Z HQ];rfl,Z xK⟩
         ·have oN:(qty != dq)=true:=by simpa using hqd
          have HQ:Hid (lm=13):=by show _ = _;rw[Z ow];grind
          clear hd0 hd9 qE hd3 je jP uf hqd;go_wp2_with fail;go_ret;exact⟨by rw[Z HQ];rfl,Z xK⟩
        ·have oM:(id != di)=true:=by simpa using uf
         have HQ:Hid (lm=13):=by show _ = _;rw[Z ow];grind
         clear hd0 hd9 qE hd3 je jP uf;go_wp2_with fail;go_ret;exact⟨by rw[Z HQ];rfl,Z xK⟩
       ·have aH:(xl != dk)=true:=by simpa using jP
        have HQ:Hid (lm=13):=by show _ = _;rw[Z ow];grind
        clear hd0 hd9 qE hd3 je jP;go_wp2_with fail;go_ret;exact⟨by rw[Z HQ];rfl,Z xK⟩
 ·have HQ:Hid (lm=3):=by show _ = _;rw[Z ow];grind
  go_wp2_with fail;go_ret;exact⟨by rw[Z HQ];rfl,Z xK⟩
theorem ip (e:Ev)(w:World)(X:1<=e.kind/\e.kind<=9):Calls Tryz.prog 84 #[evV e] w fun r w'=>r = .returned (.tuple #[cmV (zV e),.bool (zR e.kind)])/\yn w w':=by
 have hsf:=sfl;obtain⟨xl,⟨ck,cs,ct,cl,cq,ci,cp,cg⟩,id,xh,qty,xi,xg⟩:=e;simp only at X;unfold evV zV cmV zCm zR;simp only;rcases(show xl=1\/xl=2\/xl=3\/xl=4\/xl=5\/xl=6\/xl=7\/xl=8\/xl=9 by omega) with rfl|rfl|rfl|rfl|rfl|rfl|rfl|rfl|rfl
 all_goals
  clear X;simp;go_enter Tryz.func84,Tryz.ntmps84;go_wp2_with fail;go_returns;exact⟨rfl,by go_grown⟩
theorem iRow_slice {W:World}{B:Nat}{v:Value}{l:List Nat}(h:IRow W B v l):∃a c,v = .slice a l.length c:=by
 rcases h.2 with⟨e,e2⟩|⟨g,cap,xr,e,_⟩
 ·exact⟨none,0,by rw[e,e2]⟩
 ·exact⟨_,_,e⟩
theorem ls (k ck cs ct cl cq ci:Int)(cp:Nat)(cg:ByteArray)(id xh qty xi xg:Int)(O:Nat)(g:Gr)(w:World)(X:1<=k/\k<=9)(hs:zR k=false):Calls Tryz.prog 120 #[xj O 0,.agg (yv k ck cs ct cl cq ci cp cg id xh qty xi xg).toArray] w fun x w'=>x = .returned (H (fstM g.nx g.l ⟨k,⟨ck,cs,ct,cl,cq,ci,cp,cg⟩,id,xh,qty,xi,xg⟩))/\yn w w':=by
 have hsf:=sfl;have qO:=Q (fun W=>gS k W X);rw[hs] at qO;have qN:Hid (fstM g.nx g.l ⟨k,⟨ck,cs,ct,cl,cq,ci,cp,cg⟩,id,xh,qty,xi,xg⟩=3):=by show _ = _;simp[fstM,hs]
 generalize fstM g.nx g.l ⟨k,⟨ck,cs,ct,cl,cq,ci,cp,cg⟩,id,xh,qty,xi,xg⟩=fm at qN |-;have HX:=Q (zj w (yv k ck cs ct cl cq ci cp cg id xh qty xi xg) 89);have HB:Hid (yn w (w.alloc (J (yv k ck cs ct cl cq ci cp cg id xh qty xi xg).toArray 89))):=lT _ _;clear X hs;go_enter Tryz.func120,Tryz.ntmps120;refine lX fun ho HK=>?_;go_wp2_with fail;refine Z HK _ _ ?_;clear HK;generalize (w.alloc (J (yv k ck cs ct cl cq ci cp cg id xh qty xi xg).toArray 89))=W1 at HX HB |-;have e0:=Y (Z HX) 0 rfl;go_wp2_with fail;refine(Z qO W1).mono ?_;rintro e w1 ⟨rfl,ju⟩;rw[ju];clear ju;go_wp2_with fail;go_ret;exact⟨by rw[Z qN];rfl,Z HB⟩
theorem first_2 {O B:Nat}{vl vd va:Value}{g:Gr}{t:Od}{kd n0:Int}{dy l0:List Od}(ck cs ct cl cq ci:Int)(cp:Nat)(cg:ByteArray)(id xh qty xi xg:Int)(w:World)(h:MS O B w vl vd va g t kd n0 dy l0)(hi:GI g)(A:g.bg=0)(M:cg.size<=maxLen):Calls Tryz.prog 120 #[xj O 0,.agg (yv 2 ck cs ct cl cq ci cp cg id xh qty xi xg).toArray] w fun x w'=>x = .returned (H (fstM g.nx g.l ⟨2,⟨ck,cs,ct,cl,cq,ci,cp,cg⟩,id,xh,qty,xi,xg⟩))/\yn w w':=by
 have hsf:=sfl;have qO:=Q (fun W=>gS 2 W (by decide));have uF:=Q (fun W=>ip ⟨2,⟨ck,cs,ct,cl,cq,ci,cp,cg⟩,id,xh,qty,xi,xg⟩ W (by show(1:Int)<=2/\(2:Int)<=9;decide));have jM:=Q (hi.good (.inl (by omega)));have HSI:=Q (hi.start A).2.2.1;have xD:=hi.len;have qN:Hid (fstM g.nx g.l ⟨2,⟨ck,cs,ct,cl,cq,ci,cp,cg⟩,id,xh,qty,xi,xg⟩=if refR g.nx g.l (zV ⟨2,⟨ck,cs,ct,cl,cq,ci,cp,cg⟩,id,xh,qty,xi,xg⟩)=0 \/ ¬ refR g.nx g.l (zV ⟨2,⟨ck,cs,ct,cl,cq,ci,cp,cg⟩,id,xh,qty,xi,xg⟩)=xg then 4 else 0):=by show _ = _;simp[fstM,zR]
 have pq:Hid ((zV ⟨2,⟨ck,cs,ct,cl,cq,ci,cp,cg⟩,id,xh,qty,xi,xg⟩).g.size<=maxLen):=iy M;have pk:=Q (h.eqn A);generalize fstM g.nx g.l ⟨2,⟨ck,cs,ct,cl,cq,ci,cp,cg⟩,id,xh,qty,xi,xg⟩=fm at qN |-;generalize zV ⟨2,⟨ck,cs,ct,cl,cq,ci,cp,cg⟩,id,xh,qty,xi,xg⟩=c at uF qN pq;unfold evV at uF;simp only at uF;obtain⟨xA,HX⟩:=lY w (yv 2 ck cs ct cl cq ci cp cg id xh qty xi xg) 89;have HS:Hid ((w.alloc (J (yv 2 ck cs ct cl cq ci cp cg id xh qty xi xg).toArray 89)).heap.size=w.heap.size+1):=by show _ = _;simp
 have HM:=Q (zv h xA);have HB:=Q xA;clear h xA hi A M;go_enter Tryz.func120,Tryz.ntmps120;refine lX fun ho HK=>?_;go_wp2_with fail;refine Z HK _ _ ?_;clear HK;generalize (w.alloc (J (yv 2 ck cs ct cl cq ci cp cg id xh qty xi xg).toArray 89))=W1 at HS HX HM HB |-;obtain⟨e0,e1,e2,e3,e4,e5,e6,e7,e8,e9,uL,uG,vJ,vu⟩:=yy (Z HX);go_wp2_with fail;refine(Z qO W1).mono ?_;rintro e w1 ⟨rfl,ju⟩;rw[ju];clear ju;go_wp2_with fail;refine(Z uF W1).mono ?_;rintro e w3 ⟨rfl,xN⟩;have hz:=Z HS;obtain⟨dk,ds,dt,dl,dq,di,dp,dg⟩:=c;unfold cmV;simp only;have xz:=lT w3 (J (yx dk ds dt dl dq di dp dg).toArray 57);have vk:=xN.trans (xz.mono xN.size);have xw:=Q (zf (Z HX) vk (by omega));have kU:=Q (zv (Z HM) vk);have xK:=Q (lW (Z HB) vk);have qg:=Q (zj w3 (yx dk ds dt dl dq di dp dg) 57);have kJ:w.heap.size<(w3.alloc (J (yx dk ds dt dl dq di dp dg).toArray 57)).heap.size:=by have:=xN.size;simp;omega
 clear xN xz vk hz HX HM HB HS e0 e1 e2 e3 e4 e5 e6 e7 e8 e9 uL uG vJ vu;go_wp2_with fail;generalize (w3.alloc (J (yx dk ds dt dl dq di dp dg).toArray 57))=hk at xw kU xK qg kJ |-;have xW:Hid (Bx hk.drew w.heap.size (yv 2 ck cs ct cl cq ci cp cg id xh qty xi xg)):=zm (Z xw);have qq:Hid (MS O B hk.drew vl vd va g t kd n0 dy l0):=zv (Z kU) ⟨rfl,rfl,rfl,Nat.le_refl _,fun _ _=>rfl⟩;have uk:Hid (yn w hk.drew):=⟨(Z xK).os,(Z xK).tape,(Z xK).output,(Z xK).size,(Z xK).block⟩;have vX:Hid (Bx hk.drew w3.heap.size (yx dk ds dt dl dq di dp dg)):=zm (Z qg);clear xw kU xK qg;obtain⟨d0,d1,d2,d3,d4,d5,d6,d7⟩:=yz (Z vX);have c11:=Y (Z qq).box 11 rfl;have c12:=Y (Z qq).box 12 rfl
 have vM:Hid (Calls Tryz.prog 167 #[.agg #[H n0,va],.agg (yx dk ds dt dl dq di dp dg).toArray] hk.drew fun e w'=>e = .returned (H (refR g.nx g.l ⟨dk,ds,dt,dl,dq,di,dp,dg⟩))/\Below hk.drew.heap.size hk.drew w'):=by
  have D:=(Z qq).ahd;rw[(Z pk).2] at D;have:=iM g.nx va g.l ⟨dk,ds,dt,dl,dq,di,dp,dg⟩ hk.drew D (Z qq).sla (Z jM) (Z HSI) (Z pq);rw[ref_eq] at this;rw[(Z pk).1];exact this
 refine zw 5 (by kernel_rfl) (by kernel_rfl) ?_;simp only[yT,List.take_zero,yU,List.drop_zero]
 repeat still_step
 refine wpStill_nil ?_;clear d0 d1 d2 d3 d4 d5 d6 d7 c11 c12;go_wp2_with fail;refine(Z vM).mono ?_;rintro e w5 ⟨rfl,xX⟩;have uK:=Q (zf (Z xW) xX kJ);have un:=Q (zv (Z qq) xX);have uT:=Q (lW (Z uk) xX);clear xX vM xW qq uk vX;generalize refR g.nx g.l ⟨dk,ds,dt,dl,dq,di,dp,dg⟩=rr at qN |-;have e0:=Y (Z uK) 0 rfl;have e9:=Y (Z uK) 9 rfl;have uG:=Y (Z uK) 11 rfl;have vu:=Y (Z uK) 13 rfl
 by_cases h0:rr=0
 ·have b0:(rr==0)=true:=by simpa using h0
  have HQ:Hid (fm=4):=by show _ = _;rw[Z qN];simp[h0]
  clear h0;go_wp2_with fail;go_ret;exact⟨by rw[Z HQ];rfl,Z uT⟩
 have b0:(rr==0)=false:=by simpa using h0
 by_cases D:rr=xg
 ·have b1:(rr != xg)=false:=by simpa using D
  have HQ:Hid (fm=0):=by show _ = _;rw[Z qN,if_neg (fun h=>h.elim h0 (fun E=>E D))]
  clear h0 D;go_wp2_with fail;go_ret;exact⟨by rw[Z HQ];rfl,Z uT⟩
 ·have b1:(rr != xg)=true:=by simpa using D
  have HQ:Hid (fm=4):=by show _ = _;rw[Z qN,if_pos (.inr D)]
  clear h0 D;go_wp2_with fail;go_ret;exact⟨by rw[Z HQ];rfl,Z uT⟩
theorem first_7 {O B:Nat}{vl vd va:Value}{g:Gr}{t:Od}{kd n0:Int}{dy l0:List Od}(ck cs ct cl cq ci:Int)(cp:Nat)(cg:ByteArray)(id xh qty xi xg:Int)(w:World)(h:MS O B w vl vd va g t kd n0 dy l0)(hi:GI g)(A:g.bg=0)(M:cg.size<=maxLen):Calls Tryz.prog 120 #[xj O 0,.agg (yv 7 ck cs ct cl cq ci cp cg id xh qty xi xg).toArray] w fun x w'=>x = .returned (H (fstM g.nx g.l ⟨7,⟨ck,cs,ct,cl,cq,ci,cp,cg⟩,id,xh,qty,xi,xg⟩))/\yn w w':=by
 have hsf:=sfl;have qO:=Q (fun W=>gS 7 W (by decide));have uF:=Q (fun W=>ip ⟨7,⟨ck,cs,ct,cl,cq,ci,cp,cg⟩,id,xh,qty,xi,xg⟩ W (by show(1:Int)<=7/\(7:Int)<=9;decide));have jM:=Q (hi.good (.inl (by omega)));have HSI:=Q (hi.start A).2.2.1;have xD:=hi.len;have qN:Hid (fstM g.nx g.l ⟨7,⟨ck,cs,ct,cl,cq,ci,cp,cg⟩,id,xh,qty,xi,xg⟩=if refR g.nx g.l (zV ⟨7,⟨ck,cs,ct,cl,cq,ci,cp,cg⟩,id,xh,qty,xi,xg⟩)=0 then(0) else 5):=by show _ = _;simp[fstM,zR]
 have pq:Hid ((zV ⟨7,⟨ck,cs,ct,cl,cq,ci,cp,cg⟩,id,xh,qty,xi,xg⟩).g.size<=maxLen):=iy M;have pk:=Q (h.eqn A);generalize fstM g.nx g.l ⟨7,⟨ck,cs,ct,cl,cq,ci,cp,cg⟩,id,xh,qty,xi,xg⟩=fm at qN |-;generalize zV ⟨7,⟨ck,cs,ct,cl,cq,ci,cp,cg⟩,id,xh,qty,xi,xg⟩=c at uF qN pq;unfold evV at uF;simp only at uF;obtain⟨xA,HX⟩:=lY w (yv 7 ck cs ct cl cq ci cp cg id xh qty xi xg) 89;have HS:Hid ((w.alloc (J (yv 7 ck cs ct cl cq ci cp cg id xh qty xi xg).toArray 89)).heap.size=w.heap.size+1):=by show _ = _;simp
 have HM:=Q (zv h xA);have HB:=Q xA;clear h xA hi A M;go_enter Tryz.func120,Tryz.ntmps120;refine lX fun ho HK=>?_;go_wp2_with fail;refine Z HK _ _ ?_;clear HK;generalize (w.alloc (J (yv 7 ck cs ct cl cq ci cp cg id xh qty xi xg).toArray 89))=W1 at HS HX HM HB |-;obtain⟨e0,e1,e2,e3,e4,e5,e6,e7,e8,e9,uL,uG,vJ,vu⟩:=yy (Z HX);go_wp2_with fail;refine(Z qO W1).mono ?_;rintro e w1 ⟨rfl,ju⟩;rw[ju];clear ju;go_wp2_with fail;refine(Z uF W1).mono ?_;rintro e w3 ⟨rfl,xN⟩;have hz:=Z HS;obtain⟨dk,ds,dt,dl,dq,di,dp,dg⟩:=c;unfold cmV;simp only;have xz:=lT w3 (J (yx dk ds dt dl dq di dp dg).toArray 57);have vk:=xN.trans (xz.mono xN.size);have xw:=Q (zf (Z HX) vk (by omega));have kU:=Q (zv (Z HM) vk);have xK:=Q (lW (Z HB) vk);have qg:=Q (zj w3 (yx dk ds dt dl dq di dp dg) 57);have kJ:w.heap.size<(w3.alloc (J (yx dk ds dt dl dq di dp dg).toArray 57)).heap.size:=by have:=xN.size;simp;omega
 clear xN xz vk hz HX HM HB HS e0 e1 e2 e3 e4 e5 e6 e7 e8 e9 uL uG vJ vu;go_wp2_with fail;generalize (w3.alloc (J (yx dk ds dt dl dq di dp dg).toArray 57))=hk at xw kU xK qg kJ |-;have xW:Hid (Bx hk.drew w.heap.size (yv 7 ck cs ct cl cq ci cp cg id xh qty xi xg)):=zm (Z xw);have qq:Hid (MS O B hk.drew vl vd va g t kd n0 dy l0):=zv (Z kU) ⟨rfl,rfl,rfl,Nat.le_refl _,fun _ _=>rfl⟩;have uk:Hid (yn w hk.drew):=⟨(Z xK).os,(Z xK).tape,(Z xK).output,(Z xK).size,(Z xK).block⟩;have vX:Hid (Bx hk.drew w3.heap.size (yx dk ds dt dl dq di dp dg)):=zm (Z qg);clear xw kU xK qg;obtain⟨d0,d1,d2,d3,d4,d5,d6,d7⟩:=yz (Z vX);have c11:=Y (Z qq).box 11 rfl;have c12:=Y (Z qq).box 12 rfl
 have vM:Hid (Calls Tryz.prog 167 #[.agg #[H n0,va],.agg (yx dk ds dt dl dq di dp dg).toArray] hk.drew fun e w'=>e = .returned (H (refR g.nx g.l ⟨dk,ds,dt,dl,dq,di,dp,dg⟩))/\Below hk.drew.heap.size hk.drew w'):=by
  have D:=(Z qq).ahd;rw[(Z pk).2] at D;have:=iM g.nx va g.l ⟨dk,ds,dt,dl,dq,di,dp,dg⟩ hk.drew D (Z qq).sla (Z jM) (Z HSI) (Z pq);rw[ref_eq] at this;rw[(Z pk).1];exact this
 refine zw 5 (by kernel_rfl) (by kernel_rfl) ?_;simp only[yT,List.take_zero,yU,List.drop_zero]
 repeat still_step
 refine wpStill_nil ?_;clear d0 d1 d2 d3 d4 d5 d6 d7 c11 c12;go_wp2_with fail;refine(Z vM).mono ?_;rintro e w5 ⟨rfl,xX⟩;have uK:=Q (zf (Z xW) xX kJ);have un:=Q (zv (Z qq) xX);have uT:=Q (lW (Z uk) xX);clear xX vM xW qq uk vX;generalize refR g.nx g.l ⟨dk,ds,dt,dl,dq,di,dp,dg⟩=rr at qN |-;have e0:=Y (Z uK) 0 rfl;have e9:=Y (Z uK) 9 rfl;have uG:=Y (Z uK) 11 rfl;have vu:=Y (Z uK) 13 rfl
 by_cases h0:rr=0
 case neg =>
  have b0:(rr != 0)=true:=by simpa using h0
  have HQ:Hid (fm=5):=by show _ = _;rw[Z qN,if_neg h0]
  clear h0;go_wp2_with fail;go_ret;exact⟨by rw[Z HQ];rfl,Z uT⟩
 have b0:(rr != 0)=false:=by simpa using h0
 have ka:=Q (Z qN);rw[if_pos h0] at ka;clear h0 qN;go_wp2_with fail;go_ret;exact⟨by rw[Z ka];rfl,Z uT⟩
theorem first_1 {O B:Nat}{vl vd va:Value}{g:Gr}{t:Od}{kd n0:Int}{dy l0:List Od}(ck cs ct cl cq ci:Int)(cp:Nat)(cg:ByteArray)(id xh qty xi xg:Int)(w:World)(h:MS O B w vl vd va g t kd n0 dy l0)(hi:GI g)(A:g.bg=0)(M:cg.size<=maxLen):Calls Tryz.prog 120 #[xj O 0,.agg (yv 1 ck cs ct cl cq ci cp cg id xh qty xi xg).toArray] w fun x w'=>x = .returned (H (fstM g.nx g.l ⟨1,⟨ck,cs,ct,cl,cq,ci,cp,cg⟩,id,xh,qty,xi,xg⟩))/\yn w w':=by
 have hsf:=sfl;have qO:=Q (fun W=>gS 1 W (by decide));have uF:=Q (fun W=>ip ⟨1,⟨ck,cs,ct,cl,cq,ci,cp,cg⟩,id,xh,qty,xi,xg⟩ W (by show(1:Int)<=1/\(1:Int)<=9;decide));have jM:=Q (hi.good (.inl (by omega)));have HSI:=Q (hi.start A).2.2.1;have xD:=hi.len;have qN:Hid (fstM g.nx g.l ⟨1,⟨ck,cs,ct,cl,cq,ci,cp,cg⟩,id,xh,qty,xi,xg⟩=if refR g.nx g.l (zV ⟨1,⟨ck,cs,ct,cl,cq,ci,cp,cg⟩,id,xh,qty,xi,xg⟩)=0 then(if id=g.nx then 0 else 6) else 5):=by show _ = _;simp[fstM,zR]
 have pq:Hid ((zV ⟨1,⟨ck,cs,ct,cl,cq,ci,cp,cg⟩,id,xh,qty,xi,xg⟩).g.size<=maxLen):=iy M;have pk:=Q (h.eqn A);generalize fstM g.nx g.l ⟨1,⟨ck,cs,ct,cl,cq,ci,cp,cg⟩,id,xh,qty,xi,xg⟩=fm at qN |-;generalize zV ⟨1,⟨ck,cs,ct,cl,cq,ci,cp,cg⟩,id,xh,qty,xi,xg⟩=c at uF qN pq;unfold evV at uF;simp only at uF;obtain⟨xA,HX⟩:=lY w (yv 1 ck cs ct cl cq ci cp cg id xh qty xi xg) 89;have HS:Hid ((w.alloc (J (yv 1 ck cs ct cl cq ci cp cg id xh qty xi xg).toArray 89)).heap.size=w.heap.size+1):=by show _ = _;simp
 have HM:=Q (zv h xA);have HB:=Q xA;clear h xA hi A M;go_enter Tryz.func120,Tryz.ntmps120;refine lX fun ho HK=>?_;go_wp2_with fail;refine Z HK _ _ ?_;clear HK;generalize (w.alloc (J (yv 1 ck cs ct cl cq ci cp cg id xh qty xi xg).toArray 89))=W1 at HS HX HM HB |-;obtain⟨e0,e1,e2,e3,e4,e5,e6,e7,e8,e9,uL,uG,vJ,vu⟩:=yy (Z HX);go_wp2_with fail;refine(Z qO W1).mono ?_;rintro e w1 ⟨rfl,ju⟩;rw[ju];clear ju;go_wp2_with fail;refine(Z uF W1).mono ?_;rintro e w3 ⟨rfl,xN⟩;have hz:=Z HS;obtain⟨dk,ds,dt,dl,dq,di,dp,dg⟩:=c;unfold cmV;simp only;have xz:=lT w3 (J (yx dk ds dt dl dq di dp dg).toArray 57);have vk:=xN.trans (xz.mono xN.size);have xw:=Q (zf (Z HX) vk (by omega));have kU:=Q (zv (Z HM) vk);have xK:=Q (lW (Z HB) vk);have qg:=Q (zj w3 (yx dk ds dt dl dq di dp dg) 57);have kJ:w.heap.size<(w3.alloc (J (yx dk ds dt dl dq di dp dg).toArray 57)).heap.size:=by have:=xN.size;simp;omega
 clear xN xz vk hz HX HM HB HS e0 e1 e2 e3 e4 e5 e6 e7 e8 e9 uL uG vJ vu;go_wp2_with fail;generalize (w3.alloc (J (yx dk ds dt dl dq di dp dg).toArray 57))=hk at xw kU xK qg kJ |-;have xW:Hid (Bx hk.drew w.heap.size (yv 1 ck cs ct cl cq ci cp cg id xh qty xi xg)):=zm (Z xw);have qq:Hid (MS O B hk.drew vl vd va g t kd n0 dy l0):=zv (Z kU) ⟨rfl,rfl,rfl,Nat.le_refl _,fun _ _=>rfl⟩;have uk:Hid (yn w hk.drew):=⟨(Z xK).os,(Z xK).tape,(Z xK).output,(Z xK).size,(Z xK).block⟩;have vX:Hid (Bx hk.drew w3.heap.size (yx dk ds dt dl dq di dp dg)):=zm (Z qg);clear xw kU xK qg;obtain⟨d0,d1,d2,d3,d4,d5,d6,d7⟩:=yz (Z vX);have c11:=Y (Z qq).box 11 rfl;have c12:=Y (Z qq).box 12 rfl
 have vM:Hid (Calls Tryz.prog 167 #[.agg #[H n0,va],.agg (yx dk ds dt dl dq di dp dg).toArray] hk.drew fun e w'=>e = .returned (H (refR g.nx g.l ⟨dk,ds,dt,dl,dq,di,dp,dg⟩))/\Below hk.drew.heap.size hk.drew w'):=by
  have D:=(Z qq).ahd;rw[(Z pk).2] at D;have:=iM g.nx va g.l ⟨dk,ds,dt,dl,dq,di,dp,dg⟩ hk.drew D (Z qq).sla (Z jM) (Z HSI) (Z pq);rw[ref_eq] at this;rw[(Z pk).1];exact this
 refine zw 5 (by kernel_rfl) (by kernel_rfl) ?_;simp only[yT,List.take_zero,yU,List.drop_zero]
 repeat still_step
 refine wpStill_nil ?_;clear d0 d1 d2 d3 d4 d5 d6 d7 c11 c12;go_wp2_with fail;refine(Z vM).mono ?_;rintro e w5 ⟨rfl,xX⟩;have uK:=Q (zf (Z xW) xX kJ);have un:=Q (zv (Z qq) xX);have uT:=Q (lW (Z uk) xX);clear xX vM xW qq uk vX;generalize refR g.nx g.l ⟨dk,ds,dt,dl,dq,di,dp,dg⟩=rr at qN |-;have e0:=Y (Z uK) 0 rfl;have e9:=Y (Z uK) 9 rfl;have uG:=Y (Z uK) 11 rfl;have vu:=Y (Z uK) 13 rfl
 by_cases h0:rr=0
 case neg =>
  have b0:(rr != 0)=true:=by simpa using h0
  have HQ:Hid (fm=5):=by show _ = _;rw[Z qN,if_neg h0]
  clear h0;go_wp2_with fail;go_ret;exact⟨by rw[Z HQ];rfl,Z uT⟩
 have b0:(rr != 0)=false:=by simpa using h0
 have ka:=Q (Z qN);rw[if_pos h0] at ka;clear h0 qN;have c0:=Y (Z un).box 0 rfl
 by_cases D:id=g.nx
 ·have b1:(id != g.nx)=false:=by simpa using D
  rw[if_pos D] at ka;clear D;go_wp2_with fail;go_quiet (fail);go_wp2_with fail;go_ret;exact⟨by rw[Z ka];rfl,zp (Z uT) _⟩
 ·have b1:(id != g.nx)=true:=by simpa using D
  rw[if_neg D] at ka;clear D;go_wp2_with fail;go_quiet (fail);go_wp2_with fail;go_ret;exact⟨by rw[Z ka];rfl,zp (Z uT) _⟩
end Go.Proofs.YtbghmldggahjiaaGreatDoor
