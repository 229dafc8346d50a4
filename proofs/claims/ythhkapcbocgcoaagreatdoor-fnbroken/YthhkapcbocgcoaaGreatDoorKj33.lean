/-.-/
import Derived.Test.YthhkapcbocgcoaaGreatDoorKj29
import Derived.Lib.QuietBelow
set_option linter.unusedVariables false
set_option maxHeartbeats 6400000
set_option maxRecDepth 100000
namespace Go.Proofs.YthhkapcbocgcoaaGreatDoor
open Go.RowKit
theorem mdue_any {cl B:Nat}{vl vd va:Value}{g:Gr}{t:Od}{kd n0:Int}{dy l0:List Od}(w:World)(h:MS cl B w vl vd va g t kd n0 dy l0)(hi:GI g)(hm:MR g t kd dy):Calls Tryz.prog 26 #[I cl 0] w fun e w'=>e = .returned (duV (dueG g))/\yn w w':=by
 have hsf:=sfl;have hO:=h.lt;rw[<- dueM_eq hi hm];have xC:g.l.length<=1000:=yO hi.len (by decide);have jN:0<=t.left:=by rw[hm.left];exact hi.l0
 have bK:Hid (∀W,RdR Od.vs 6 W vl g.l->Calls Tryz.prog 61 #[vl,.agg (yw t.id t.side t.ticks t.left t.life t.tag).toArray] W fun e w'=>∃k:Int,e = .returned (H k)/\NexS g.l t k/\yn W w'):=fun W hW=>by
  by_cases h0:t.left=0
  ·exact l04Next_none vl g.l t W hW hi.rise xC hm.side h0
  ·have D:g.tk.left≠0:=by rw[<- hm.left];exact h0
   have Y:g.bg=1:=Classical.byContradiction fun h3=>D (hi.free h3);refine lU vl g.l t W hW hi.rise xC ?_;rw[hm.same D,((hi.acc Y).2.2 D).1];exact side_of (hi.acc Y).1
 obtain⟨xD,HX⟩:=mu w [H 0,H 0,H 0,H 0,H 0] 39;have HS:Hid ((w.alloc (mq #[H 0,H 0,H 0,H 0,H 0] 39)).heap.size=w.heap.size+1):=by show _ = _;simp
 have HM:=Z (zy h xD);have HB:=Z xD;clear h xD hi hm;obtain⟨ti,pK,tt,tl,pJ,tg⟩:=t;simp only at jN bK;go_enter Tryz.func26,Tryz.ntmps26;refine ms fun mR HK=>?_;go_wp2_with fail;refine U HK _ _ ?_;clear HK;generalize (w.alloc (mq #[H 0,H 0,H 0,H 0,H 0] 39))=W1 at HX HS HM HB |-;have xG:=Z (U HX);have xV:=Z (U HM);have xv:=Z (U HB);have xR:Hid (Bx W1.drew w.heap.size [H 0,H 0,H 0,H 0,H 0]):=zM (U xG);have qd:Hid (MS cl B W1.drew vl vd va g ⟨ti,pK,tt,tl,pJ,tg⟩ kd n0 dy l0):=zy (U xV) ⟨rfl,rfl,rfl,Nat.le_refl _,fun _ _=>rfl⟩;have vC:Hid (yn w W1.drew):=⟨(U xv).os,(U xv).tape,(U xv).output,(U xv).size,(U xv).block⟩;have c1:=A (U qd).box 1 rfl;have c2:=A (U qd).box 2 rfl;have c3:=A (U qd).box 3 rfl;have c4:=A (U qd).box 4 rfl;have c5:=A (U qd).box 5 rfl;have c6:=A (U qd).box 6 rfl;have c7:=A (U qd).box 7 rfl;have hSD:w.heap.size<W1.drew.heap.size:=by show w.heap.size<W1.heap.size;have:=U HS;omega
 have vn:=Z (zI (U qd).row (yO xC (by decide)));go_wp2_with fail;refine zD 8 (by kernel_rfl) (by kernel_rfl) ?_;simp only[yU,List.take_zero,yV,List.drop_zero]
 repeat still_step
 refine wpStill_nil ?_;go_wp2_with fail;refine(U bK W1.drew (U vn)).mono ?_;rintro e w2 ⟨k,rfl,hN,xO⟩;have uT:=Z (zg (U xR) xO hSD);have HM3:=Z (zy (U qd) xO);have xI:=Z (mr (U vC) xO);clear xO c1 c2 c3 c4 c5 c6 c7 HX HM HB xG xV xv xR qd vC vn HS hSD bK;have xG:=Z (U uT);have xV:=Z (U HM3);have xv:=Z (U xI);clear uT HM3 xI;rcases hN with⟨rfl,qI⟩|⟨i,o,rfl,hil,jx,pY,cM,xr⟩
 ·by_cases h0:tl=0
  ·have HD:Hid (dueM g.l ⟨ti,pK,tt,tl,pJ,tg⟩ kd dy=match dy with|o :: _=>⟨9,o.id,0,o.left,0⟩ | []=>zDu):=by show _ = _;unfold dueM;rw[if_neg (by simpa using h0)];cases dy <;> rfl
   have hp:¬ (0<tl):=by omega
   clear qI h0;have c5:=A (U xV).box 5 rfl;have c10:=A (U xV).box 10 rfl;obtain⟨a,cap,rfl,dJ,hdc⟩:=(U xV).days;cases dy with
   | nil =>
    simp only[List.length_nil] at c10 |-;obtain ⟨z0,z1,z2,z3,z4⟩:=q0_5 (U xG) rfl;obtain ⟨f0,f1,f2,f3,f4⟩:=r0_5 (U xG) rfl;go_wp2_with fail
    try simp +zetaDelta only[Exit.noGoto_ret]
    change bodyPost _ _ _ _ _ (World.setCells w2 w.heap.size 0 [H 0,H 0,H 0,H 0,H 0]);have xp:Hid ((World.setCells w2 w.heap.size 0 [H 0,H 0,H 0,H 0,H 0]).rangeAt w.heap.size 0 [H 0,H 0,H 0,H 0,H 0]/\yn w (World.setCells w2 w.heap.size 0 [H 0,H 0,H 0,H 0,H 0])):=⟨(zq (U xG) (by simp only[List.length_cons,List.length_nil])).r,zh w.heap.size (by omega) [H 0,H 0,H 0,H 0,H 0] 0 w2 (U xv)⟩;generalize World.setCells w2 w.heap.size 0 [H 0,H 0,H 0,H 0,H 0]=WE at xp |-;obtain⟨d0,d1,d2,d3,d4⟩:=yC (U xp).1
    try simp only[Exit.inBlock,Exit.then]
    refine bodyPost_ret (by simp[results,Tryz.results26,go_sem,d0,d1,d2,d3,d4];try rfl) rfl ?_;exact⟨by rw[U HD];rfl,(U xp).2⟩
   | cons o dr =>
    obtain⟨b,off,rfl,pl,xn⟩:=hdc (by simp);have hlp:(0:Int)<((o::dr).length:Int):=by rw[List.length_cons];omega
    have hlp2:((0:Nat):Int)<((o::dr).length:Int):=by rw[List.length_cons];omega
    obtain⟨y0,-,-,y3,-,-⟩:=zF (xn 0 o rfl);simp only[Nat.zero_mul,Nat.add_zero] at y0 y3;generalize (o::dr).length=dn at c10 hlp hlp2;have xR:Hid (Bx w2.drew w.heap.size [H 0,H 0,H 0,H 0,H 0]):=zM (U xG);have vC:Hid (yn w w2.drew):=⟨(U xv).os,(U xv).tape,(U xv).output,(U xv).size,(U xv).block⟩;go_wp2_with fail;have kH:w2.drew.cell? (J cl 10) = _:=c10;have y0d:w2.drew.cell? (J b off)=some (H o.id):=y0;have y3d:w2.drew.cell? (J b (off+3))=some (H o.left):=y3;refine zD 15 (by kernel_rfl) (by kernel_rfl) ?_;simp only[yU,List.take_zero,yV,List.drop_zero]
    repeat still_step
    refine wpStill_nil ?_;clear kH y0d y3d y0 y3 c5 c10 xG xV xv;generalize w2.drew=h2 at xR vC |-;obtain ⟨z0,z1,z2,z3,z4⟩:=q0_5 (U xR) rfl;obtain ⟨f0,f1,f2,f3,f4⟩:=r0_5 (U xR) rfl;go_wp2_with fail
    try simp +zetaDelta only[Exit.noGoto_ret]
    change bodyPost _ _ _ _ _ (World.setCells h2 w.heap.size 0 [H 9,H o.id,H 0,H o.left,H 0]);have xp:Hid ((World.setCells h2 w.heap.size 0 [H 9,H o.id,H 0,H o.left,H 0]).rangeAt w.heap.size 0 [H 9,H o.id,H 0,H o.left,H 0]/\yn w (World.setCells h2 w.heap.size 0 [H 9,H o.id,H 0,H o.left,H 0])):=⟨(zq (U xR) (by simp only[List.length_cons,List.length_nil])).r,zh w.heap.size (by omega) [H 9,H o.id,H 0,H o.left,H 0] 0 h2 (U vC)⟩;generalize World.setCells h2 w.heap.size 0 [H 9,H o.id,H 0,H o.left,H 0]=WE at xp |-;obtain⟨d0,d1,d2,d3,d4⟩:=yC (U xp).1
    try simp only[Exit.inBlock,Exit.then]
    refine bodyPost_ret (by simp[results,Tryz.results26,go_sem,d0,d1,d2,d3,d4];try rfl) rfl ?_;exact⟨by rw[U HD];rfl,(U xp).2⟩
  ·have HD:Hid (dueM g.l ⟨ti,pK,tt,tl,pJ,tg⟩ kd dy=⟨if dT kd=true then 4 else 5,ti,0,tl,0⟩):=by
    show _ = _;unfold dueM;rw[if_pos (by simpa using h0)];rcases qI with D|D|⟨o,D,Y⟩
    ·exact absurd D h0
    ·rw[D];rfl
    ·rw[D];simp only[Y];rfl
   have hp:0<tl:=by omega
   clear qI h0;have c2:=A (U xV).box 2 rfl;have c5:=A (U xV).box 5 rfl;have c8:=A (U xV).box 8 rfl;cases jP:dT kd
   ·have oV:=Z (U HD);rw[jP,if_neg (by simp)] at oV;have uK:Hid (∀W,Calls Tryz.prog 42 #[H kd] W fun e w'=>e = .returned (.bool false)/\w'=W):=fun W=>by rw[<- jP];exact gG kd W
    clear jP HD;go_wp2_with fail;refine(U uK w2).mono ?_;rintro e w3 ⟨rfl,hw3⟩;rw[hw3];clear hw3;have xR:Hid (Bx w2.drew w.heap.size [H 0,H 0,H 0,H 0,H 0]):=zM (U xG);have vC:Hid (yn w w2.drew):=⟨(U xv).os,(U xv).tape,(U xv).output,(U xv).size,(U xv).block⟩;go_wp2_with fail;have d2:w2.drew.cell? (J cl 2) = _:=c2;have d5:w2.drew.cell? (J cl 5) = _:=c5;refine zD 12 (by kernel_rfl) (by kernel_rfl) ?_;simp only[yU,List.take_zero,yV,List.drop_zero]
    repeat still_step
    refine wpStill_nil ?_;clear d2 d5 c2 c5 c8 xG xV xv uK;generalize w2.drew=h2 at xR vC |-;obtain ⟨z0,z1,z2,z3,z4⟩:=q0_5 (U xR) rfl;obtain ⟨f0,f1,f2,f3,f4⟩:=r0_5 (U xR) rfl;go_wp2_with fail
    try simp +zetaDelta only[Exit.noGoto_ret]
    change bodyPost _ _ _ _ _ (World.setCells h2 w.heap.size 0 [H 5,H ti,H 0,H tl,H 0]);have xp:Hid ((World.setCells h2 w.heap.size 0 [H 5,H ti,H 0,H tl,H 0]).rangeAt w.heap.size 0 [H 5,H ti,H 0,H tl,H 0]/\yn w (World.setCells h2 w.heap.size 0 [H 5,H ti,H 0,H tl,H 0])):=⟨(zq (U xR) (by simp only[List.length_cons,List.length_nil])).r,zh w.heap.size (by omega) [H 5,H ti,H 0,H tl,H 0] 0 h2 (U vC)⟩;generalize World.setCells h2 w.heap.size 0 [H 5,H ti,H 0,H tl,H 0]=WE at xp |-;obtain⟨d0,d1,d2,d3,d4⟩:=yC (U xp).1
    try simp only[Exit.inBlock,Exit.then]
    refine bodyPost_ret (by simp[results,Tryz.results26,go_sem,d0,d1,d2,d3,d4];try rfl) rfl ?_;exact⟨by rw[U oV];rfl,(U xp).2⟩
   ·have oV:=Z (U HD);rw[jP,if_pos rfl] at oV;have uK:Hid (∀W,Calls Tryz.prog 42 #[H kd] W fun e w'=>e = .returned (.bool true)/\w'=W):=fun W=>by rw[<- jP];exact gG kd W
    clear jP HD;go_wp2_with fail;refine(U uK w2).mono ?_;rintro e w3 ⟨rfl,hw3⟩;rw[hw3];clear hw3;have xR:Hid (Bx w2.drew w.heap.size [H 0,H 0,H 0,H 0,H 0]):=zM (U xG);have vC:Hid (yn w w2.drew):=⟨(U xv).os,(U xv).tape,(U xv).output,(U xv).size,(U xv).block⟩;go_wp2_with fail;have d2:w2.drew.cell? (J cl 2) = _:=c2;have d5:w2.drew.cell? (J cl 5) = _:=c5;refine zD 12 (by kernel_rfl) (by kernel_rfl) ?_;simp only[yU,List.take_zero,yV,List.drop_zero]
    repeat still_step
    refine wpStill_nil ?_;clear d2 d5 c2 c5 c8 xG xV xv uK;generalize w2.drew=h2 at xR vC |-;obtain ⟨z0,z1,z2,z3,z4⟩:=q0_5 (U xR) rfl;obtain ⟨f0,f1,f2,f3,f4⟩:=r0_5 (U xR) rfl;go_wp2_with fail
    try simp +zetaDelta only[Exit.noGoto_ret]
    change bodyPost _ _ _ _ _ (World.setCells h2 w.heap.size 0 [H 4,H ti,H 0,H tl,H 0]);have xp:Hid ((World.setCells h2 w.heap.size 0 [H 4,H ti,H 0,H tl,H 0]).rangeAt w.heap.size 0 [H 4,H ti,H 0,H tl,H 0]/\yn w (World.setCells h2 w.heap.size 0 [H 4,H ti,H 0,H tl,H 0])):=⟨(zq (U xR) (by simp only[List.length_cons,List.length_nil])).r,zh w.heap.size (by omega) [H 4,H ti,H 0,H tl,H 0] 0 h2 (U vC)⟩;generalize World.setCells h2 w.heap.size 0 [H 4,H ti,H 0,H tl,H 0]=WE at xp |-;obtain⟨d0,d1,d2,d3,d4⟩:=yC (U xp).1
    try simp only[Exit.inBlock,Exit.then]
    refine bodyPost_ret (by simp[results,Tryz.results26,go_sem,d0,d1,d2,d3,d4];try rfl) rfl ?_;exact⟨by rw[U oV];rfl,(U xp).2⟩
 ·have HD:Hid (dueM g.l ⟨ti,pK,tt,tl,pJ,tg⟩ kd dy=⟨3,ti,o.id,min tl o.left,o.ticks⟩):=by
   show _ = _;unfold dueM;rw[if_pos (by simpa using xr),pY];simp only[cM];rfl
  generalize hq:min tl o.left=q at HD
  have hmin:∀W,(Builtin.min_ #[3,3] 3 #[H tl,H o.left]).run Tryz.prog W = .ok (H q) W:=fun W=>by
   rw[<- hq]
   by_cases qS:tl<=o.left
   ·rw[Int.min_eq_left qS];go_simp;omega
   ·rw[Int.min_eq_right (by omega)];go_simp
  obtain⟨a,cap,rfl,dJ,hdc⟩:=zI (U xV).row (yO xC (by decide));obtain⟨b,off,rfl,pl,xn⟩:=hdc (by intro h;rw[h] at jx;simp at jx);obtain⟨y0,-,y2,y3,-,-⟩:=zF (xn i o jx);have hil':(i:Int)<g.l.length:=by omega
  have vk:(0:Int)<=i:=by omega
  have c1:=A (U xV).box 1 rfl;have c2:=A (U xV).box 2 rfl;have c5:=A (U xV).box 5 rfl;clear pY cM xr hq jx xn hdc hil;have xR:Hid (Bx w2.drew w.heap.size [H 0,H 0,H 0,H 0,H 0]):=zM (U xG);have vC:Hid (yn w w2.drew):=⟨(U xv).os,(U xv).tape,(U xv).output,(U xv).size,(U xv).block⟩;go_wp2_with fail;have d1:w2.drew.cell? (J cl 1) = _:=c1;have d2:w2.drew.cell? (J cl 2) = _:=c2;have d5:w2.drew.cell? (J cl 5) = _:=c5;have y0d:w2.drew.cell? (J b (off+i*6))=some (H o.id):=y0;have y2d:w2.drew.cell? (J b (off+i*6+2))=some (H o.ticks):=y2;have y3d:w2.drew.cell? (J b (off+i*6+3))=some (H o.left):=y3;refine zD 36 (by kernel_rfl) (by kernel_rfl) ?_;simp only[yU,List.take_zero,yV,List.drop_zero]
  repeat still_step
  refine wpStill_nil ?_;clear d1 d2 d5 y0d y2d y3d y0 y2 y3 c1 c2 c5 xG xV xv;generalize w2.drew=h2 at xR vC |-;obtain ⟨z0,z1,z2,z3,z4⟩:=q0_5 (U xR) rfl;obtain ⟨f0,f1,f2,f3,f4⟩:=r0_5 (U xR) rfl;go_wp2_with fail
  try simp +zetaDelta only[Exit.noGoto_ret]
  change bodyPost _ _ _ _ _ (World.setCells h2 w.heap.size 0 [H 3,H ti,H o.id,H q,H o.ticks]);have xp:Hid ((World.setCells h2 w.heap.size 0 [H 3,H ti,H o.id,H q,H o.ticks]).rangeAt w.heap.size 0 [H 3,H ti,H o.id,H q,H o.ticks]/\yn w (World.setCells h2 w.heap.size 0 [H 3,H ti,H o.id,H q,H o.ticks])):=⟨(zq (U xR) (by simp only[List.length_cons,List.length_nil])).r,zh w.heap.size (by omega) [H 3,H ti,H o.id,H q,H o.ticks] 0 h2 (U vC)⟩;generalize World.setCells h2 w.heap.size 0 [H 3,H ti,H o.id,H q,H o.ticks]=WE at xp |-;obtain⟨d0,d1,d2,d3,d4⟩:=yC (U xp).1
  try simp only[Exit.inBlock,Exit.then]
  refine bodyPost_ret (by simp[results,Tryz.results26,go_sem,d0,d1,d2,d3,d4];try rfl) rfl ?_;exact⟨by rw[U HD];rfl,(U xp).2⟩
theorem gX (k:Int)(w:World)(hk:1<=k/\k<=9):Calls Tryz.prog 160 #[H k] w fun e w'=>e = .returned (.bool (zX k))/\w'=w:=by
 rcases(show k=1\/k=2\/k=3\/k=4\/k=5\/k=6\/k=7\/k=8\/k=9 by omega) with rfl|rfl|rfl|rfl|rfl|rfl|rfl|rfl|rfl
 all_goals
  clear hk;go_enter Tryz.func160,Tryz.ntmps160;go_wp2_with fail;go_ret;exact⟨rfl,rfl⟩
theorem later_any {cl B:Nat}{vl vd va:Value}{g:Gr}{t:Od}{kd n0:Int}{dy l0:List Od}(e:Ev)(w:World)(h:MS cl B w vl vd va g t kd n0 dy l0)(hi:GI g)(hm:MR g t kd dy)(hk:1<=e.kind/\e.kind<=9):Calls Tryz.prog 113 #[I cl 0,evV e] w fun x w'=>x = .returned (H (latM (dueG g) e))/\yn w w':=by
 have hsf:=sfl;have oe:=Z (fun W (hW:MS cl B W vl vd va g t kd n0 dy l0)=>mdue_any W hW hi hm);have uP:=Z (fun W=>gX e.kind W hk);generalize dueG g=d at oe |-;have kX:Hid (latM d e=if zX e.kind=true then 3 else if d.kind=0 then 8 else if d.kind=9\/e.kind=9 then(if ((e.kind==d.kind)&&((e.id==d.id)&&(e.qty==d.qty)))=true then 0 else 14) else if d.kind≠3 then(if e.kind=3 then 9 else if ((e.kind==d.kind)&&((e.id==d.id)&&(e.qty==d.qty)))=true then 0 else 13) else if e.kind≠3 then 13 else if e.id≠d.id then 9 else if e.other≠d.other then 10 else if e.price≠d.price then 11 else if e.qty≠d.qty then 12 else 0):=rfl
 generalize latM d e=lm at kX |-;generalize zX e.kind=sb at uP kX;obtain⟨xm,⟨ck,F,ct,O,cq,ci,cp,cg⟩,id,xj,qty,xk,xh⟩:=e;obtain⟨dk,di,dt,dq,dp⟩:=d;unfold duV at oe;unfold evV;simp only at oe uP kX |-;obtain⟨xD,HX⟩:=mu w (yv xm ck F ct O cq ci cp cg id xj qty xk xh) 37;have HS:Hid ((w.alloc (mq (yv xm ck F ct O cq ci cp cg id xj qty xk xh).toArray 37)).heap.size=w.heap.size+1):=by show _ = _;simp
 have HM:=Z (zy h xD);have HB:=Z xD;clear h xD hi hm hk;go_enter Tryz.func113,Tryz.ntmps113;refine ms fun mR HK=>?_;go_wp2_with fail;refine U HK _ _ ?_;clear HK;generalize (w.alloc (mq (yv xm ck F ct O cq ci cp cg id xj qty xk xh).toArray 37))=W1 at HS HX HM HB |-;go_wp2_with fail;refine(U oe W1 (U HM)).mono ?_;rintro e w2 ⟨rfl,xO⟩;obtain⟨xy,vR⟩:=mu w2 [H dk,H di,H dt,H dq,H dp] 39;have hb24:=xO.trans (xy.mono xO.size);have xH:=Z (zg (U HX) hb24 (by have:=U HS;omega));have xF:=Z (mr (U HB) hb24);clear xO xy hb24 HX HM HB HS oe;have e0:=A (U xH) 0 rfl;go_wp2_with fail;generalize (w2.alloc (mq #[H dk,H di,H dt,H dq,H dp] 39))=hg at xH xF vR e0 |-;refine(U uP hg).mono ?_;rintro e X2 ⟨rfl,jV⟩;rw[<- jV] at xH xF vR e0;clear jV uP;have e9:=A (U xH) 9 rfl;have uW:=A (U xH) 10 rfl;have uE:=A (U xH) 11 rfl;have vS:=A (U xH) 12 rfl;obtain ⟨v0,v1,v2,v3,v4⟩:=q0_5 (U vR) rfl;cases sb
 ·by_cases hd0:dk=0
  ·have f_hd0:(dk==0)=true:=by simpa using hd0
   have HQ:Hid (lm=8):=by show _ = _;rw[U kX];grind
   clear hd0;go_wp2_with fail;go_ret;exact⟨by rw[U HQ];rfl,U xF⟩
  ·have f_hd0:(dk==0)=false:=by simpa using hd0
   by_cases hd9:dk=9
   ·have f_hd9:(dk==9)=true:=by simpa using hd9
    by_cases qx:xm=dk
    ·have aU:(xm != dk)=false:=by simpa using qx
     by_cases uk:id=di
     ·have ox:(id != di)=false:=by simpa using uk
      by_cases hqd:qty=dq
      ·have oy:(qty != dq)=false:=by simpa using hqd
       have HQ:Hid (lm=0):=by show _ = _;rw[U kX];grind
       clear hd0 hd9 qx uk hqd;go_wp2_with fail;go_ret;exact⟨by rw[U HQ];rfl,U xF⟩
      ·have oy:(qty != dq)=true:=by simpa using hqd
       have HQ:Hid (lm=14):=by show _ = _;rw[U kX];grind
       clear hd0 hd9 qx uk hqd;go_wp2_with fail;go_ret;exact⟨by rw[U HQ];rfl,U xF⟩
     ·have ox:(id != di)=true:=by simpa using uk
      have HQ:Hid (lm=14):=by show _ = _;rw[U kX];grind
      clear hd0 hd9 qx uk;go_wp2_with fail;go_ret;exact⟨by rw[U HQ];rfl,U xF⟩
    ·have aU:(xm != dk)=true:=by simpa using qx
     have HQ:Hid (lm=14):=by show _ = _;rw[U kX];grind
     clear hd0 hd9 qx;go_wp2_with fail;go_ret;exact⟨by rw[U HQ];rfl,U xF⟩
   ·have f_hd9:(dk==9)=false:=by simpa using hd9
    by_cases jW:xm=9
    ·have f_hk9:(xm==9)=true:=by simpa using jW
     by_cases qx:xm=dk
     ·have aU:(xm != dk)=false:=by simpa using qx
      by_cases uk:id=di
      ·have ox:(id != di)=false:=by simpa using uk
       by_cases hqd:qty=dq
       ·have oy:(qty != dq)=false:=by simpa using hqd
        have HQ:Hid (lm=0):=by show _ = _;rw[U kX];grind
        clear hd0 hd9 jW qx uk hqd;go_wp2_with fail;go_ret;exact⟨by rw[U HQ];rfl,U xF⟩
       ·have oy:(qty != dq)=true:=by simpa using hqd
        have HQ:Hid (lm=14):=by show _ = _;rw[U kX];grind
        clear hd0 hd9 jW qx uk hqd;go_wp2_with fail;go_ret;exact⟨by rw[U HQ];rfl,U xF⟩
      ·have ox:(id != di)=true:=by simpa using uk
       have HQ:Hid (lm=14):=by show _ = _;rw[U kX];grind
       clear hd0 hd9 jW qx uk;go_wp2_with fail;go_ret;exact⟨by rw[U HQ];rfl,U xF⟩
     ·have aU:(xm != dk)=true:=by simpa using qx
      have HQ:Hid (lm=14):=by show _ = _;rw[U kX];grind
      clear hd0 hd9 jW qx;go_wp2_with fail;go_ret;exact⟨by rw[U HQ];rfl,U xF⟩
    ·have f_hk9:(xm==9)=false:=by simpa using jW
     by_cases cN:dk=3
     ·have g_hd3:(dk != 3)=false:=by simpa using cN
      by_cases hk3:xm=3
      ·have f_hk3:(xm==3)=true:=by simpa using hk3
       have g_hk3:(xm != 3)=false:=by simpa using hk3
       by_cases uk:id=di
       ·have ox:(id != di)=false:=by simpa using uk
        by_cases bp:xj=dt
        ·have g_hot:(xj != dt)=false:=by simpa using bp
         by_cases hpr:xk=dp
         ·have g_hpr:(xk != dp)=false:=by simpa using hpr
          by_cases hqd:qty=dq
          ·have oy:(qty != dq)=false:=by simpa using hqd
           have HQ:Hid (lm=0):=by show _ = _;rw[U kX];grind
           clear hd0 hd9 jW cN hk3 uk bp hpr hqd;go_wp2_with fail;go_ret;exact⟨by rw[U HQ];rfl,U xF⟩
          ·have oy:(qty != dq)=true:=by simpa using hqd
           have HQ:Hid (lm=12):=by show _ = _;rw[U kX];grind
           clear hd0 hd9 jW cN hk3 uk bp hpr hqd;go_wp2_with fail;go_ret;exact⟨by rw[U HQ];rfl,U xF⟩
         ·have g_hpr:(xk != dp)=true:=by simpa using hpr
          have HQ:Hid (lm=11):=by show _ = _;rw[U kX];grind
          clear hd0 hd9 jW cN hk3 uk bp hpr;go_wp2_with fail;go_ret;exact⟨by rw[U HQ];rfl,U xF⟩
        ·have g_hot:(xj != dt)=true:=by simpa using bp
         have HQ:Hid (lm=10):=by show _ = _;rw[U kX];grind
         clear hd0 hd9 jW cN hk3 uk bp;go_wp2_with fail;go_ret;exact⟨by rw[U HQ];rfl,U xF⟩
       ·have ox:(id != di)=true:=by simpa using uk
        have HQ:Hid (lm=9):=by show _ = _;rw[U kX];grind
        clear hd0 hd9 jW cN hk3 uk;go_wp2_with fail;go_ret;exact⟨by rw[U HQ];rfl,U xF⟩
      ·have f_hk3:(xm==3)=false:=by simpa using hk3
       have g_hk3:(xm != 3)=true:=by simpa using hk3
       have HQ:Hid (lm=13):=by show _ = _;rw[U kX];grind
       clear hd0 hd9 jW cN hk3;go_wp2_with fail;go_ret;exact⟨by rw[U HQ];rfl,U xF⟩
     ·have g_hd3:(dk != 3)=true:=by simpa using cN
      by_cases hk3:xm=3
      ·have f_hk3:(xm==3)=true:=by simpa using hk3
       have g_hk3:(xm != 3)=false:=by simpa using hk3
       have HQ:Hid (lm=9):=by show _ = _;rw[U kX];grind
       clear hd0 hd9 jW cN hk3;go_wp2_with fail;go_ret;exact⟨by rw[U HQ];rfl,U xF⟩
      ·have f_hk3:(xm==3)=false:=by simpa using hk3
       have g_hk3:(xm != 3)=true:=by simpa using hk3
       by_cases qx:xm=dk
       ·have aU:(xm != dk)=false:=by simpa using qx
        by_cases uk:id=di
        ·have ox:(id != di)=false:=by simpa using uk
         by_cases hqd:qty=dq
         ·have oy:(qty != dq)=false:=by simpa using hqd
          have HQ:Hid (lm=0):=by show _ = _;rw[U kX];grind
          clear hd0 hd9 jW cN hk3 qx uk hqd;go_wp2_with fail;go_ret;exact⟨by rw[U HQ];rfl,U xF⟩
         ·have oy:(qty != dq)=true:=by simpa using hqd
          have HQ:Hid (lm=13):=by show _ = _;rw[U kX];grind
          clear hd0 hd9 jW cN hk3 qx uk hqd;go_wp2_with fail;go_ret;exact⟨by rw[U HQ];rfl,U xF⟩
        ·have ox:(id != di)=true:=by simpa using uk
         have HQ:Hid (lm=13):=by show _ = _;rw[U kX];grind
         clear hd0 hd9 jW cN hk3 qx uk;go_wp2_with fail;go_ret;exact⟨by rw[U HQ];rfl,U xF⟩
       ·have aU:(xm != dk)=true:=by simpa using qx
        have HQ:Hid (lm=13):=by show _ = _;rw[U kX];grind
        clear hd0 hd9 jW cN hk3 qx;go_wp2_with fail;go_ret;exact⟨by rw[U HQ];rfl,U xF⟩
 ·have HQ:Hid (lm=3):=by show _ = _;rw[U kX];grind
  go_wp2_with fail;go_ret;exact⟨by rw[U HQ];rfl,U xF⟩
theorem take_1 {cl B:Nat}{vl vd va:Value}{g:Gr}{t:Od}{kd n0:Int}{dy l0:List Od}(ck F ct O cq ci:Int)(cp:Nat)(cg:ByteArray)(id xj qty xk xh:Int)(w:World)(h:MS cl B w vl vd va g t kd n0 dy l0)(hi:GI g)(hm:MR g t kd dy)(he:okE ⟨1,⟨ck,F,ct,O,cq,ci,cp,cg⟩,id,xj,qty,xk,xh⟩=true)(hr:zE g ⟨1,⟨ck,F,ct,O,cq,ci,cp,cg⟩,id,xj,qty,xk,xh⟩=0):Calls Tryz.prog 60 #[I cl 0,.agg (yv 1 ck F ct O cq ci cp cg id xj qty xk xh).toArray] w fun x w'=>TakK cl B vl.ownBlock va n0 l0 g t kd dy ⟨1,⟨ck,F,ct,O,cq,ci,cp,cg⟩,id,xj,qty,xk,xh⟩ w x w':=by
 generalize jX:vl.ownBlock=ob;have HOB:=Z jX;clear jX;have hsf:=sfl;have hO:=h.lt;have jl:=h.base;have jh:Hid (∀w' vO vi,KO cl ob w w'->MS cl B w' vO vi va (dQ g ⟨1,⟨ck,F,ct,O,cq,ci,cp,cg⟩,id,xj,qty,xk,xh⟩) (tkM g t ⟨1,⟨ck,F,ct,O,cq,ci,cp,cg⟩,id,xj,qty,xk,xh⟩) (kdM kd ⟨1,⟨ck,F,ct,O,cq,ci,cp,cg⟩,id,xj,qty,xk,xh⟩) n0 (dyM g dy ⟨1,⟨ck,F,ct,O,cq,ci,cp,cg⟩,id,xj,qty,xk,xh⟩) l0->TakK cl B ob va n0 l0 g t kd dy ⟨1,⟨ck,F,ct,O,cq,ci,cp,cg⟩,id,xj,qty,xk,xh⟩ w (.returned (.tuple #[])) w'):=fun w' vO vi D Y=>⟨rfl,D,vO,vi,Y⟩;obtain⟨h0,-,uk⟩:=rule1 (e:=⟨1,⟨ck,F,ct,O,cq,ci,cp,cg⟩,id,xj,qty,xk,xh⟩) rfl hr;have qy:=hi.start h0;have pq:IntKind.i64.wrap (g.nx+1)=g.nx+1:=by rw[IntKind.wrap_i64];omega
 have uj:Hid (dQ g ⟨1,⟨ck,F,ct,O,cq,ci,cp,cg⟩,id,xj,qty,xk,xh⟩=⟨g.nx+1,g.l,1,⟨ck,F,ct,O,cq,ci,cp,cg⟩,ordO ⟨ck,F,ct,O,cq,ci,cp,cg⟩ id⟩):=by show _ = _;rw[step1 rfl];simp only[begG,if_pos h0]
 have un:Hid (tkM g t ⟨1,⟨ck,F,ct,O,cq,ci,cp,cg⟩,id,xj,qty,xk,xh⟩=⟨g.nx,F,tkS cp,cq,O,cg⟩/\kdM kd ⟨1,⟨ck,F,ct,O,cq,ci,cp,cg⟩,id,xj,qty,xk,xh⟩=ct/\dyM g dy ⟨1,⟨ck,F,ct,O,cq,ci,cp,cg⟩,id,xj,qty,xk,xh⟩=dy):=⟨rfl,rfl,rfl⟩;have HN0:Hid (n0=g.nx):=(h.eqn h0).1;obtain⟨aa,ac,hva,-,-⟩:=h.ahd;have kY:=Z (fun W=>lQ n0 aa l0.length ac ⟨ck,F,ct,O,cq,ci,cp,cg⟩ W);rw[<- hva] at kY;unfold cmV at kY;simp only at kY;rw[U HN0] at kY;generalize tkS cp=tp at kY un;clear h0 uk qy hva;generalize TakK cl B ob va n0 l0 g t kd dy ⟨1,⟨ck,F,ct,O,cq,ci,cp,cg⟩,id,xj,qty,xk,xh⟩ w=C at jh |-;obtain⟨xD,HX⟩:=mu w (yv 1 ck F ct O cq ci cp cg id xj qty xk xh) 37;have HM:=Z (zy h xD);have HB:Hid (KO cl ob w (w.alloc (mq (yv 1 ck F ct O cq ci cp cg id xj qty xk xh).toArray 37))):=ko_of xD;clear h xD hi hm he hr;go_enter Tryz.func60,Tryz.ntmps60;refine ms fun mR HK=>?_;go_wp2_with fail;refine U HK _ _ ?_;clear HK;generalize (w.alloc (mq (yv 1 ck F ct O cq ci cp cg id xj qty xk xh).toArray 37))=W1 at HX HM HB |-;have c9:=A (U HM).box 9 rfl;have q9:=zd (U HM).box 9 (by show 9<13;decide);have xv:Hid (KO cl ob w (World.setCells W1 cl 9 [.bool true])):=eC (U HB) 9 _;have xV:Hid (MS cl B (World.setCells W1 cl 9 [.bool true]) vl vd va { g with bg:=1 } t kd n0 dy l0):=fu (U HM) 9 [.bool true] (by simp) rfl rfl (fun h=>absurd (show(1:Int)=0 from h) (by decide));have xG:Hid (Bx (World.setCells W1 cl 9 [.bool true]) w.heap.size (yv 1 ck F ct O cq ci cp cg id xj qty xk xh)):=dU (U HX) (et cl w.heap.size (by omega) _ 9 W1);clear HX HM HB;refine ms fun mR HK=>?_;go_wp2_with fail;refine U HK _ _ ?_;clear HK;change Code.wp _ _ _ _ (World.setCells W1 cl 9 [.bool true]);generalize World.setCells W1 cl 9 [.bool true]=hg at xv xV xG |-;have hSX:w.heap.size<hg.heap.size:=yL _ _ (A (U xG) 0 rfl)
 have HC11:Hid (hg.cell? (J cl 11)=some (H g.nx)):=by
  have:=A (U xV).box 11 rfl;rw[U HN0] at this;exact this
 have e0:=A (U xG) 0 rfl;clear c9 q9;go_wp2_with fail;refine zu (RWA (fun f=>{ tmps:=#[I cl 0,.agg (yv 1 ck F ct O cq ci cp cg id xj qty xk xh).toArray,M,I w.heap.size 0,M,I cl 0,I cl 0,I cl 9,I w.heap.size 0,H 1,.bool true,.bool true,f 0,f 1,f 2,f 3,f 4,f 5,f 6,f 7,f 8,f 9,M,M,M,M,M,M,M,M,M,M,M,M,M,M,M,M,M,M,M,M,M,M,M,M,M,M,M,M,M,M,M,M,M,M,M,M,M,M,M,M,M,M,M,M,M,M,M,M,M,M,M,M,M,M,M,M,M,M,M,M,M,M,M,M,M,M,M,M,M,M,M,M,M,M,M,M,M,M,M,M,M,M,M,M,M,M,M,M,M,M,M,M,M,M,M,M,M,M,M,M,M,M,M,M,M,M,M,M,M,M,M,M,M,M,M,M,M,M,M,M,M,M,M,M,M,M,M,M,M,M,M,M,M,M,M,M,M,M,M,M,M,M,M,M,M,M,M,M,M,M,M,M,M,M,M,M,M,M,M,M,M,M,M],defers:=[] }) (CVw [some (I cl 0),some (I cl 0),some (I cl 0),some (I cl 11),some (.agg #[H g.nx,va]),some (I w.heap.size 1),some (.agg (yx ck F ct O cq ci cp cg).toArray),some (.agg (yw g.nx F tp cq O cg).toArray),some (I cl 0),some (I cl 2),none] (fun _=>True)) 10 (fun V=>World.setCells V cl 2 (yw g.nx F tp cq O cg)) hg) (by kernel_rfl) ?_ ?_ ?_
 ·exact⟨fun _=>M,rfl,⟨fun j hj=>by rw[yJ] at hj;split at hj <;> simp at hj,fun _=>⟨rfl,rfl,rfl,Nat.le_refl _,fun _ _=>rfl⟩,fun hj=>by rw[yJ] at hj;split at hj <;> simp at hj⟩⟩
 ·rintro x zb V ⟨f,rfl,L⟩ hx xS;have xq:=eE xS hx (acyc _ (by kernel_rfl));obtain⟨V0,xD,eV⟩:=L.m (xq 10 (by simp));have jS:=Z (zy (U xV) xD);have xH:=Z (zg (U xG) xD hSX);have xF:=Z (ij (U xv) xD);clear L xq xS hx xD;subst eV;dsimp only;generalize f 0=v0,f 1=v1,f 2=v2,f 3=v3,f 4=v4,f 5=v5,f 6=v6,f 7=v7,f 8=v8,f 9=v9;have uS:Hid (MS cl B (World.setCells V0 cl 2 (yw g.nx F tp cq O cg)) vl vd va { g with bg:=1 } ⟨g.nx,F,tp,cq,O,cg⟩ kd n0 dy l0):=fu (U jS) 2 (yw g.nx F tp cq O cg) (by simp) rfl rfl (fun h=>absurd (show(1:Int)=0 from h) (by decide));have vj:Hid (Bx (World.setCells V0 cl 2 (yw g.nx F tp cq O cg)) w.heap.size (yv 1 ck F ct O cq ci cp cg id xj qty xk xh)):=dU (U xH) (et cl w.heap.size (by omega) _ 2 V0);have ui:=Z (eC (U xF) 2 (yw g.nx F tp cq O cg));generalize World.setCells V0 cl 2 (yw g.nx F tp cq O cg)=h2 at uS vj ui |-;have e3:=A (U vj) 3 rfl;have c8:=A (U uS).box 8 rfl;have q8:=zd (U uS).box 8 (by show 8<13;decide);have HM6:Hid (MS cl B (h2.setCell (J cl 8) (H ct)) vl vd va { g with bg:=1 } ⟨g.nx,F,tp,cq,O,cg⟩ ct n0 dy l0):=fu (U uS) 8 [H ct] (by simp) rfl rfl (fun h=>absurd (show(1:Int)=0 from h) (by decide));have vZ:Hid (KO cl ob w (h2.setCell (J cl 8) (H ct))):=eC (U ui) 8 [H ct];have c0:=A (U HM6).box 0 rfl;have q0:=zd (U HM6).box 0 (by show 0<13;decide);go_wp2_with fail;go_end0;refine U jh _ vl vd (eC (U vZ) 0 [H (g.nx+1)]) ?_;rw[U uj,(U un).1,(U un).2.1,(U un).2.2];exact fu (U HM6) 0 [H (g.nx+1)] (by simp) rfl rfl (fun h=>absurd (show(1:Int)=0 from h) (by decide))
 ·rintro x zb V i op ⟨f,rfl,L⟩ xn hx Q xu R;have xw:=Z L
  have nw:i<10->x[10]? = some false:=fun xM=>by
   rcases fN hx (show 10<11 by omega) with hq|hw
   ·exact hq
   ·exfalso;have h0:=yf xn 10 rfl hw 0 rfl;have D:=yf xn 10 rfl hw 1 rfl;have Y:=yf xn 10 rfl hw 2 rfl;have h3:=yf xn 10 rfl hw 3 rfl;have h4:=yf xn 10 rfl hw 4 rfl;have h5:=yf xn 10 rfl hw 5 rfl;have h6:=yf xn 10 rfl hw 6 rfl;have h7:=yf xn 10 rfl hw 7 rfl;have h9:=yf xn 10 rfl hw 9 rfl;have h8:=yf xn 9 rfl h9 8 rfl;rcases(by omega:i=0\/i=1\/i=2\/i=3\/i=4\/i=5\/i=6\/i=7\/i=8\/i=9) with rfl|rfl|rfl|rfl|rfl|rfl|rfl|rfl|rfl|rfl
    ·exact absurd (h0.symm.trans xu) (by simp)
    ·exact absurd (D.symm.trans xu) (by simp)
    ·exact absurd (Y.symm.trans xu) (by simp)
    ·exact absurd (h3.symm.trans xu) (by simp)
    ·exact absurd (h4.symm.trans xu) (by simp)
    ·exact absurd (h5.symm.trans xu) (by simp)
    ·exact absurd (h6.symm.trans xu) (by simp)
    ·exact absurd (h7.symm.trans xu) (by simp)
    ·exact absurd (h8.symm.trans xu) (by simp)
    ·exact absurd (h9.symm.trans xu) (by simp)
  have uH:i<10->yn hg V:=fun h=>L.b (nw h);have xl:i<10->∀(p:Addr) u,hg.cell? p=some u->V.cell? p=some u:=fun h p u hu=>((uH h).cell (yL hg _ hu)).trans hu
  match i,Q with
  | 0,Q|1,Q =>
   cases Q;have CL:=xl (by omega);clear R L uH xl nw CL;go_simp;exact⟨upd f _ (I cl 0),by simp[upd],zV (U xw) _ _ ⟨yi rfl,trivial⟩ (by decide)⟩
  | 2,Q =>
   cases Q;have g1:=(L.c 1 (ye R 1 rfl)).1 _ rfl;have CL:=xl (by omega);clear R L uH xl nw CL;go_simp;exact⟨upd f 2 (I cl 0),by simp[upd,g1],zV (U xw) 2 _ ⟨yi rfl,trivial⟩ (by decide)⟩
  | 3,Q =>
   cases Q;have g2:=(L.c 2 (ye R 2 rfl)).1 _ rfl;have CL:=xl (by omega);clear R L uH xl nw CL;go_simp;exact⟨upd f 3 (I cl 11),by simp[upd,g2],zV (U xw) 3 _ ⟨yi rfl,trivial⟩ (by decide)⟩
  | 4,Q =>
   cases Q;have g3:=(L.c 3 (ye R 3 rfl)).1 _ rfl;have CL:=xl (by omega);have z1:=CL (J cl 11) _ (U HC11);have z2:=CL (J cl 12) _ (A (U xV).box 12 rfl);clear R L uH xl nw CL;go_simp;exact⟨upd f 4 (.agg #[H g.nx,va]),by simp[upd,g3],zV (U xw) 4 _ ⟨yi rfl,trivial⟩ (by decide)⟩
  | 5,Q =>
   cases Q;have CL:=xl (by omega);clear R L uH xl nw CL;go_simp;exact⟨upd f 5 (I w.heap.size 1),by simp[upd],zV (U xw) 5 _ ⟨yi rfl,trivial⟩ (by decide)⟩
  | 6,Q =>
   cases Q;have g5:=(L.c 5 (ye R 5 rfl)).1 _ rfl;have CL:=xl (by omega);have e1:=CL (J w.heap.size 1) _ (A (U xG) 1 rfl);have e2:=CL (J w.heap.size 2) _ (A (U xG) 2 rfl);have e3:=CL (J w.heap.size 3) _ (A (U xG) 3 rfl);have e4:=CL (J w.heap.size 4) _ (A (U xG) 4 rfl);have e5:=CL (J w.heap.size 5) _ (A (U xG) 5 rfl);have e6:=CL (J w.heap.size 6) _ (A (U xG) 6 rfl);have e7:=CL (J w.heap.size 7) _ (A (U xG) 7 rfl);have e8:=CL (J w.heap.size 8) _ (A (U xG) 8 rfl);clear R L uH xl nw CL;go_simp;exact⟨upd f 6 (.agg (yx ck F ct O cq ci cp cg).toArray),by simp[upd,g5],zV (U xw) 6 _ ⟨yi rfl,trivial⟩ (by decide)⟩
  | 7,Q =>
   cases Q;have g4:=(L.c 4 (ye R 4 rfl)).1 _ rfl;have g6:=(L.c 6 (ye R 6 rfl)).1 _ rfl;have CL:=xl (by omega);have hw:=nw (by omega);clear R L uH xl nw CL;go_simp;refine(U kY V).mono ?_;rintro e w4 ⟨rfl,xy⟩;exact⟨upd f 7 (.agg (yw g.nx F tp cq O cg).toArray),by simp[upd,g4,g6],zV (iw (U xw) hw xy) 7 _ ⟨yi rfl,trivial⟩ (by decide)⟩
  | 8,Q =>
   cases Q;have g0:=(L.c 0 (ye R 0 rfl)).1 _ rfl;have CL:=xl (by omega);clear R L uH xl nw CL;go_simp;exact⟨upd f 8 (I cl 0),by simp[upd,g0],zV (U xw) 8 _ ⟨yi rfl,trivial⟩ (by decide)⟩
  | 9,Q =>
   cases Q;have g8:=(L.c 8 (ye R 8 rfl)).1 _ rfl;have CL:=xl (by omega);clear R L uH xl nw CL;go_simp;exact⟨upd f 9 (I cl 2),by simp[upd,g8],zV (U xw) 9 _ ⟨yi rfl,trivial⟩ (by decide)⟩
  | 10,Q =>
   cases Q;have g9:=(L.c 9 (ye R 9 rfl)).1 _ rfl;have g7:=(L.c 7 (ye R 7 rfl)).1 _ rfl;have qu:=Z (zy (U xV) (L.b xu));have z2:=A (U qu).box 2 rfl;have q2:=zd (U qu).box 2 (by show 2<13;decide);have z3:=A (U qu).box 3 rfl;have q3:=zd (U qu).box 3 (by show 3<13;decide);have z4:=A (U qu).box 4 rfl;have q4:=zd (U qu).box 4 (by show 4<13;decide);have z5:=A (U qu).box 5 rfl;have q5:=zd (U qu).box 5 (by show 5<13;decide);have z6:=A (U qu).box 6 rfl;have q6:=zd (U qu).box 6 (by show 6<13;decide);have z7:=A (U qu).box 7 rfl;have q7:=zd (U qu).box 7 (by show 7<13;decide);clear R L uH xl nw;go_simp;exact⟨f,by simp[g9,g7],rw_last (T:=fun V=>World.setCells V cl 2 (yw g.nx F tp cq O cg)) (U xw) xu (fun j hj hx=>⟨fun u hu=>(by subst hj;cases hu),trivial⟩)⟩
  | i+11,Q=>simp at Q
theorem iP (e:Ev)(w:World)(hk:1<=e.kind/\e.kind<=9):Calls Tryz.prog 161 #[evV e] w fun r w'=>r = .returned (.tuple #[cmV (dV e),.bool (zX e.kind)])/\yn w w':=by
 have hsf:=sfl;obtain⟨xm,⟨ck,F,ct,O,cq,ci,cp,cg⟩,id,xj,qty,xk,xh⟩:=e;simp only at hk;unfold evV dV cmV zCm zX;simp only;rcases(show xm=1\/xm=2\/xm=3\/xm=4\/xm=5\/xm=6\/xm=7\/xm=8\/xm=9 by omega) with rfl|rfl|rfl|rfl|rfl|rfl|rfl|rfl|rfl
 all_goals
  clear hk;simp;go_enter Tryz.func161,Tryz.ntmps161;go_wp2_with fail;go_returns;exact⟨rfl,by go_grown⟩
theorem iRow_slice {W:World}{B:Nat}{v:Value}{l:List Nat}(h:IRow W B v l):∃a c,v = .slice a l.length c:=by
 rcases h.2 with⟨e,e2⟩|⟨g,cap,xA,e,_⟩
 ·exact⟨none,0,by rw[e,e2]⟩
 ·exact⟨_,_,e⟩
theorem lE (k ck F ct O cq ci:Int)(cp:Nat)(cg:ByteArray)(id xj qty xk xh:Int)(cl:Nat)(g:Gr)(w:World)(hk:1<=k/\k<=9)(hs:zX k=false):Calls Tryz.prog 114 #[I cl 0,.agg (yv k ck F ct O cq ci cp cg id xj qty xk xh).toArray] w fun x w'=>x = .returned (H (fstM g.nx g.l ⟨k,⟨ck,F,ct,O,cq,ci,cp,cg⟩,id,xj,qty,xk,xh⟩))/\yn w w':=by
 have hsf:=sfl;have uP:=Z (fun W=>gX k W hk);rw[hs] at uP;have qr:Hid (fstM g.nx g.l ⟨k,⟨ck,F,ct,O,cq,ci,cp,cg⟩,id,xj,qty,xk,xh⟩=3):=by show _ = _;simp[fstM,hs]
 generalize fstM g.nx g.l ⟨k,⟨ck,F,ct,O,cq,ci,cp,cg⟩,id,xj,qty,xk,xh⟩=fm at qr |-;have HX:=Z (zn w (yv k ck F ct O cq ci cp cg id xj qty xk xh) 37);have HB:Hid (yn w (w.alloc (mq (yv k ck F ct O cq ci cp cg id xj qty xk xh).toArray 37))):=mn _ _;clear hk hs;go_enter Tryz.func114,Tryz.ntmps114;refine ms fun mR HK=>?_;go_wp2_with fail;refine U HK _ _ ?_;clear HK;generalize (w.alloc (mq (yv k ck F ct O cq ci cp cg id xj qty xk xh).toArray 37))=W1 at HX HB |-;have e0:=A (U HX) 0 rfl;go_wp2_with fail;refine(U uP W1).mono ?_;rintro e w1 ⟨rfl,qF⟩;rw[qF];clear qF;go_wp2_with fail;go_ret;exact⟨by rw[U qr];rfl,U HB⟩
theorem first_2 {cl B:Nat}{vl vd va:Value}{g:Gr}{t:Od}{kd n0:Int}{dy l0:List Od}(ck F ct O cq ci:Int)(cp:Nat)(cg:ByteArray)(id xj qty xk xh:Int)(w:World)(h:MS cl B w vl vd va g t kd n0 dy l0)(hi:GI g)(E:g.bg=0)(X:cg.size<=maxLen):Calls Tryz.prog 114 #[I cl 0,.agg (yv 2 ck F ct O cq ci cp cg id xj qty xk xh).toArray] w fun x w'=>x = .returned (H (fstM g.nx g.l ⟨2,⟨ck,F,ct,O,cq,ci,cp,cg⟩,id,xj,qty,xk,xh⟩))/\yn w w':=by
 have hsf:=sfl;have uP:=Z (fun W=>gX 2 W (by decide));have uz:=Z (fun W=>iP ⟨2,⟨ck,F,ct,O,cq,ci,cp,cg⟩,id,xj,qty,xk,xh⟩ W (by show(1:Int)<=2/\(2:Int)<=9;decide));have qQ:=Z (hi.good (.inl (by omega)));have HSI:=Z (hi.start E).2.2.1;have xC:=hi.len;have qr:Hid (fstM g.nx g.l ⟨2,⟨ck,F,ct,O,cq,ci,cp,cg⟩,id,xj,qty,xk,xh⟩=if refR g.nx g.l (dV ⟨2,⟨ck,F,ct,O,cq,ci,cp,cg⟩,id,xj,qty,xk,xh⟩)=0 \/ ¬ refR g.nx g.l (dV ⟨2,⟨ck,F,ct,O,cq,ci,cp,cg⟩,id,xj,qty,xk,xh⟩)=xh then 4 else 0):=by show _ = _;simp[fstM,zX]
 have pS:Hid ((dV ⟨2,⟨ck,F,ct,O,cq,ci,cp,cg⟩,id,xj,qty,xk,xh⟩).g.size<=maxLen):=iE X;have du:=Z (h.eqn E);generalize fstM g.nx g.l ⟨2,⟨ck,F,ct,O,cq,ci,cp,cg⟩,id,xj,qty,xk,xh⟩=fm at qr |-;generalize dV ⟨2,⟨ck,F,ct,O,cq,ci,cp,cg⟩,id,xj,qty,xk,xh⟩=c at uz qr pS;unfold evV at uz;simp only at uz;obtain⟨xD,HX⟩:=mu w (yv 2 ck F ct O cq ci cp cg id xj qty xk xh) 37;have HS:Hid ((w.alloc (mq (yv 2 ck F ct O cq ci cp cg id xj qty xk xh).toArray 37)).heap.size=w.heap.size+1):=by show _ = _;simp
 have HM:=Z (zy h xD);have HB:=Z xD;clear h xD hi E X;go_enter Tryz.func114,Tryz.ntmps114;refine ms fun mR HK=>?_;go_wp2_with fail;refine U HK _ _ ?_;clear HK;generalize (w.alloc (mq (yv 2 ck F ct O cq ci cp cg id xj qty xk xh).toArray 37))=W1 at HS HX HM HB |-;obtain⟨e0,e1,e2,e3,e4,e5,e6,e7,e8,e9,uW,uE,vS,vH⟩:=yz (U HX);go_wp2_with fail;refine(U uP W1).mono ?_;rintro e w1 ⟨rfl,qF⟩;rw[qF];clear qF;go_wp2_with fail;refine(U uz W1).mono ?_;rintro e w3 ⟨rfl,xL⟩;have hz:=U HS;obtain⟨dk,ds,dt,dl,dq,di,dp,dg⟩:=c;unfold cmV;simp only;have xy:=mn w3 (mq (yx dk ds dt dl dq di dp dg).toArray 33);have uY:=xL.trans (xy.mono xL.size);have xH:=Z (zg (U HX) uY (by omega));have jS:=Z (zy (U HM) uY);have xF:=Z (mr (U HB) uY);have vR:=Z (zn w3 (yx dk ds dt dl dq di dp dg) 33);have oA:w.heap.size<(w3.alloc (mq (yx dk ds dt dl dq di dp dg).toArray 33)).heap.size:=by have:=xL.size;simp;omega
 clear xL xy uY hz HX HM HB HS e0 e1 e2 e3 e4 e5 e6 e7 e8 e9 uW uE vS vH;go_wp2_with fail;generalize (w3.alloc (mq (yx dk ds dt dl dq di dp dg).toArray 33))=hg at xH jS xF vR oA |-;have xR:Hid (Bx hg.drew w.heap.size (yv 2 ck F ct O cq ci cp cg id xj qty xk xh)):=zM (U xH);have qd:Hid (MS cl B hg.drew vl vd va g t kd n0 dy l0):=zy (U jS) ⟨rfl,rfl,rfl,Nat.le_refl _,fun _ _=>rfl⟩;have vC:Hid (yn w hg.drew):=⟨(U xF).os,(U xF).tape,(U xF).output,(U xF).size,(U xF).block⟩;have vL:Hid (Bx hg.drew w3.heap.size (yx dk ds dt dl dq di dp dg)):=zM (U vR);clear xH jS xF vR;obtain⟨d0,d1,d2,d3,d4,d5,d6,d7⟩:=yA (U vL);have c11:=A (U qd).box 11 rfl;have c12:=A (U qd).box 12 rfl
 have uK:Hid (Calls Tryz.prog 35 #[.agg #[H n0,va],.agg (yx dk ds dt dl dq di dp dg).toArray] hg.drew fun e w'=>e = .returned (H (refR g.nx g.l ⟨dk,ds,dt,dl,dq,di,dp,dg⟩))/\Below hg.drew.heap.size hg.drew w'):=by
  have D:=(U qd).ahd;rw[(U du).2] at D;have:=iy g.nx va g.l ⟨dk,ds,dt,dl,dq,di,dp,dg⟩ hg.drew D (U qd).sla (U qQ) (U HSI) (U pS);rw[ref_eq] at this;rw[(U du).1];exact this
 refine zD 5 (by kernel_rfl) (by kernel_rfl) ?_;simp only[yU,List.take_zero,yV,List.drop_zero]
 repeat still_step
 refine wpStill_nil ?_;clear d0 d1 d2 d3 d4 d5 d6 d7 c11 c12;go_wp2_with fail;refine(U uK).mono ?_;rintro e w5 ⟨rfl,uc⟩;have vj:=Z (zg (U xR) uc oA);have uS:=Z (zy (U qd) uc);have ui:=Z (mr (U vC) uc);clear uc uK xR qd vC vL;generalize refR g.nx g.l ⟨dk,ds,dt,dl,dq,di,dp,dg⟩=rr at qr |-;have e0:=A (U vj) 0 rfl;have e9:=A (U vj) 9 rfl;have uE:=A (U vj) 11 rfl;have vH:=A (U vj) 13 rfl
 by_cases h0:rr=0
 ·have b0:(rr==0)=true:=by simpa using h0
  have HQ:Hid (fm=4):=by show _ = _;rw[U qr];simp[h0]
  clear h0;go_wp2_with fail;go_ret;exact⟨by rw[U HQ];rfl,U ui⟩
 have b0:(rr==0)=false:=by simpa using h0
 by_cases D:rr=xh
 ·have b1:(rr != xh)=false:=by simpa using D
  have HQ:Hid (fm=0):=by show _ = _;rw[U qr,if_neg (fun h=>h.elim h0 (fun Y=>Y D))]
  clear h0 D;go_wp2_with fail;go_ret;exact⟨by rw[U HQ];rfl,U ui⟩
 ·have b1:(rr != xh)=true:=by simpa using D
  have HQ:Hid (fm=4):=by show _ = _;rw[U qr,if_pos (.inr D)]
  clear h0 D;go_wp2_with fail;go_ret;exact⟨by rw[U HQ];rfl,U ui⟩
theorem first_7 {cl B:Nat}{vl vd va:Value}{g:Gr}{t:Od}{kd n0:Int}{dy l0:List Od}(ck F ct O cq ci:Int)(cp:Nat)(cg:ByteArray)(id xj qty xk xh:Int)(w:World)(h:MS cl B w vl vd va g t kd n0 dy l0)(hi:GI g)(E:g.bg=0)(X:cg.size<=maxLen):Calls Tryz.prog 114 #[I cl 0,.agg (yv 7 ck F ct O cq ci cp cg id xj qty xk xh).toArray] w fun x w'=>x = .returned (H (fstM g.nx g.l ⟨7,⟨ck,F,ct,O,cq,ci,cp,cg⟩,id,xj,qty,xk,xh⟩))/\yn w w':=by
 have hsf:=sfl;have uP:=Z (fun W=>gX 7 W (by decide));have uz:=Z (fun W=>iP ⟨7,⟨ck,F,ct,O,cq,ci,cp,cg⟩,id,xj,qty,xk,xh⟩ W (by show(1:Int)<=7/\(7:Int)<=9;decide));have qQ:=Z (hi.good (.inl (by omega)));have HSI:=Z (hi.start E).2.2.1;have xC:=hi.len;have qr:Hid (fstM g.nx g.l ⟨7,⟨ck,F,ct,O,cq,ci,cp,cg⟩,id,xj,qty,xk,xh⟩=if refR g.nx g.l (dV ⟨7,⟨ck,F,ct,O,cq,ci,cp,cg⟩,id,xj,qty,xk,xh⟩)=0 then(0) else 5):=by show _ = _;simp[fstM,zX]
 have pS:Hid ((dV ⟨7,⟨ck,F,ct,O,cq,ci,cp,cg⟩,id,xj,qty,xk,xh⟩).g.size<=maxLen):=iE X;have du:=Z (h.eqn E);generalize fstM g.nx g.l ⟨7,⟨ck,F,ct,O,cq,ci,cp,cg⟩,id,xj,qty,xk,xh⟩=fm at qr |-;generalize dV ⟨7,⟨ck,F,ct,O,cq,ci,cp,cg⟩,id,xj,qty,xk,xh⟩=c at uz qr pS;unfold evV at uz;simp only at uz;obtain⟨xD,HX⟩:=mu w (yv 7 ck F ct O cq ci cp cg id xj qty xk xh) 37;have HS:Hid ((w.alloc (mq (yv 7 ck F ct O cq ci cp cg id xj qty xk xh).toArray 37)).heap.size=w.heap.size+1):=by show _ = _;simp
 have HM:=Z (zy h xD);have HB:=Z xD;clear h xD hi E X;go_enter Tryz.func114,Tryz.ntmps114;refine ms fun mR HK=>?_;go_wp2_with fail;refine U HK _ _ ?_;clear HK;generalize (w.alloc (mq (yv 7 ck F ct O cq ci cp cg id xj qty xk xh).toArray 37))=W1 at HS HX HM HB |-;obtain⟨e0,e1,e2,e3,e4,e5,e6,e7,e8,e9,uW,uE,vS,vH⟩:=yz (U HX);go_wp2_with fail;refine(U uP W1).mono ?_;rintro e w1 ⟨rfl,qF⟩;rw[qF];clear qF;go_wp2_with fail;refine(U uz W1).mono ?_;rintro e w3 ⟨rfl,xL⟩;have hz:=U HS;obtain⟨dk,ds,dt,dl,dq,di,dp,dg⟩:=c;unfold cmV;simp only;have xy:=mn w3 (mq (yx dk ds dt dl dq di dp dg).toArray 33);have uY:=xL.trans (xy.mono xL.size);have xH:=Z (zg (U HX) uY (by omega));have jS:=Z (zy (U HM) uY);have xF:=Z (mr (U HB) uY);have vR:=Z (zn w3 (yx dk ds dt dl dq di dp dg) 33);have oA:w.heap.size<(w3.alloc (mq (yx dk ds dt dl dq di dp dg).toArray 33)).heap.size:=by have:=xL.size;simp;omega
 clear xL xy uY hz HX HM HB HS e0 e1 e2 e3 e4 e5 e6 e7 e8 e9 uW uE vS vH;go_wp2_with fail;generalize (w3.alloc (mq (yx dk ds dt dl dq di dp dg).toArray 33))=hg at xH jS xF vR oA |-;have xR:Hid (Bx hg.drew w.heap.size (yv 7 ck F ct O cq ci cp cg id xj qty xk xh)):=zM (U xH);have qd:Hid (MS cl B hg.drew vl vd va g t kd n0 dy l0):=zy (U jS) ⟨rfl,rfl,rfl,Nat.le_refl _,fun _ _=>rfl⟩;have vC:Hid (yn w hg.drew):=⟨(U xF).os,(U xF).tape,(U xF).output,(U xF).size,(U xF).block⟩;have vL:Hid (Bx hg.drew w3.heap.size (yx dk ds dt dl dq di dp dg)):=zM (U vR);clear xH jS xF vR;obtain⟨d0,d1,d2,d3,d4,d5,d6,d7⟩:=yA (U vL);have c11:=A (U qd).box 11 rfl;have c12:=A (U qd).box 12 rfl
 have uK:Hid (Calls Tryz.prog 35 #[.agg #[H n0,va],.agg (yx dk ds dt dl dq di dp dg).toArray] hg.drew fun e w'=>e = .returned (H (refR g.nx g.l ⟨dk,ds,dt,dl,dq,di,dp,dg⟩))/\Below hg.drew.heap.size hg.drew w'):=by
  have D:=(U qd).ahd;rw[(U du).2] at D;have:=iy g.nx va g.l ⟨dk,ds,dt,dl,dq,di,dp,dg⟩ hg.drew D (U qd).sla (U qQ) (U HSI) (U pS);rw[ref_eq] at this;rw[(U du).1];exact this
 refine zD 5 (by kernel_rfl) (by kernel_rfl) ?_;simp only[yU,List.take_zero,yV,List.drop_zero]
 repeat still_step
 refine wpStill_nil ?_;clear d0 d1 d2 d3 d4 d5 d6 d7 c11 c12;go_wp2_with fail;refine(U uK).mono ?_;rintro e w5 ⟨rfl,uc⟩;have vj:=Z (zg (U xR) uc oA);have uS:=Z (zy (U qd) uc);have ui:=Z (mr (U vC) uc);clear uc uK xR qd vC vL;generalize refR g.nx g.l ⟨dk,ds,dt,dl,dq,di,dp,dg⟩=rr at qr |-;have e0:=A (U vj) 0 rfl;have e9:=A (U vj) 9 rfl;have uE:=A (U vj) 11 rfl;have vH:=A (U vj) 13 rfl
 by_cases h0:rr=0
 case neg =>
  have b0:(rr != 0)=true:=by simpa using h0
  have HQ:Hid (fm=5):=by show _ = _;rw[U qr,if_neg h0]
  clear h0;go_wp2_with fail;go_ret;exact⟨by rw[U HQ];rfl,U ui⟩
 have b0:(rr != 0)=false:=by simpa using h0
 have ql:=Z (U qr);rw[if_pos h0] at ql;clear h0 qr;go_wp2_with fail;go_ret;exact⟨by rw[U ql];rfl,U ui⟩
theorem first_1 {cl B:Nat}{vl vd va:Value}{g:Gr}{t:Od}{kd n0:Int}{dy l0:List Od}(ck F ct O cq ci:Int)(cp:Nat)(cg:ByteArray)(id xj qty xk xh:Int)(w:World)(h:MS cl B w vl vd va g t kd n0 dy l0)(hi:GI g)(E:g.bg=0)(X:cg.size<=maxLen):Calls Tryz.prog 114 #[I cl 0,.agg (yv 1 ck F ct O cq ci cp cg id xj qty xk xh).toArray] w fun x w'=>x = .returned (H (fstM g.nx g.l ⟨1,⟨ck,F,ct,O,cq,ci,cp,cg⟩,id,xj,qty,xk,xh⟩))/\yn w w':=by
 have hsf:=sfl;have uP:=Z (fun W=>gX 1 W (by decide));have uz:=Z (fun W=>iP ⟨1,⟨ck,F,ct,O,cq,ci,cp,cg⟩,id,xj,qty,xk,xh⟩ W (by show(1:Int)<=1/\(1:Int)<=9;decide));have qQ:=Z (hi.good (.inl (by omega)));have HSI:=Z (hi.start E).2.2.1;have xC:=hi.len;have qr:Hid (fstM g.nx g.l ⟨1,⟨ck,F,ct,O,cq,ci,cp,cg⟩,id,xj,qty,xk,xh⟩=if refR g.nx g.l (dV ⟨1,⟨ck,F,ct,O,cq,ci,cp,cg⟩,id,xj,qty,xk,xh⟩)=0 then(if id=g.nx then 0 else 6) else 5):=by show _ = _;simp[fstM,zX]
 have pS:Hid ((dV ⟨1,⟨ck,F,ct,O,cq,ci,cp,cg⟩,id,xj,qty,xk,xh⟩).g.size<=maxLen):=iE X;have du:=Z (h.eqn E);generalize fstM g.nx g.l ⟨1,⟨ck,F,ct,O,cq,ci,cp,cg⟩,id,xj,qty,xk,xh⟩=fm at qr |-;generalize dV ⟨1,⟨ck,F,ct,O,cq,ci,cp,cg⟩,id,xj,qty,xk,xh⟩=c at uz qr pS;unfold evV at uz;simp only at uz;obtain⟨xD,HX⟩:=mu w (yv 1 ck F ct O cq ci cp cg id xj qty xk xh) 37;have HS:Hid ((w.alloc (mq (yv 1 ck F ct O cq ci cp cg id xj qty xk xh).toArray 37)).heap.size=w.heap.size+1):=by show _ = _;simp
 have HM:=Z (zy h xD);have HB:=Z xD;clear h xD hi E X;go_enter Tryz.func114,Tryz.ntmps114;refine ms fun mR HK=>?_;go_wp2_with fail;refine U HK _ _ ?_;clear HK;generalize (w.alloc (mq (yv 1 ck F ct O cq ci cp cg id xj qty xk xh).toArray 37))=W1 at HS HX HM HB |-;obtain⟨e0,e1,e2,e3,e4,e5,e6,e7,e8,e9,uW,uE,vS,vH⟩:=yz (U HX);go_wp2_with fail;refine(U uP W1).mono ?_;rintro e w1 ⟨rfl,qF⟩;rw[qF];clear qF;go_wp2_with fail;refine(U uz W1).mono ?_;rintro e w3 ⟨rfl,xL⟩;have hz:=U HS;obtain⟨dk,ds,dt,dl,dq,di,dp,dg⟩:=c;unfold cmV;simp only;have xy:=mn w3 (mq (yx dk ds dt dl dq di dp dg).toArray 33);have uY:=xL.trans (xy.mono xL.size);have xH:=Z (zg (U HX) uY (by omega));have jS:=Z (zy (U HM) uY);have xF:=Z (mr (U HB) uY);have vR:=Z (zn w3 (yx dk ds dt dl dq di dp dg) 33);have oA:w.heap.size<(w3.alloc (mq (yx dk ds dt dl dq di dp dg).toArray 33)).heap.size:=by have:=xL.size;simp;omega
 clear xL xy uY hz HX HM HB HS e0 e1 e2 e3 e4 e5 e6 e7 e8 e9 uW uE vS vH;go_wp2_with fail;generalize (w3.alloc (mq (yx dk ds dt dl dq di dp dg).toArray 33))=hg at xH jS xF vR oA |-;have xR:Hid (Bx hg.drew w.heap.size (yv 1 ck F ct O cq ci cp cg id xj qty xk xh)):=zM (U xH);have qd:Hid (MS cl B hg.drew vl vd va g t kd n0 dy l0):=zy (U jS) ⟨rfl,rfl,rfl,Nat.le_refl _,fun _ _=>rfl⟩;have vC:Hid (yn w hg.drew):=⟨(U xF).os,(U xF).tape,(U xF).output,(U xF).size,(U xF).block⟩;have vL:Hid (Bx hg.drew w3.heap.size (yx dk ds dt dl dq di dp dg)):=zM (U vR);clear xH jS xF vR;obtain⟨d0,d1,d2,d3,d4,d5,d6,d7⟩:=yA (U vL);have c11:=A (U qd).box 11 rfl;have c12:=A (U qd).box 12 rfl
 have uK:Hid (Calls Tryz.prog 35 #[.agg #[H n0,va],.agg (yx dk ds dt dl dq di dp dg).toArray] hg.drew fun e w'=>e = .returned (H (refR g.nx g.l ⟨dk,ds,dt,dl,dq,di,dp,dg⟩))/\Below hg.drew.heap.size hg.drew w'):=by
  have D:=(U qd).ahd;rw[(U du).2] at D;have:=iy g.nx va g.l ⟨dk,ds,dt,dl,dq,di,dp,dg⟩ hg.drew D (U qd).sla (U qQ) (U HSI) (U pS);rw[ref_eq] at this;rw[(U du).1];exact this
 refine zD 5 (by kernel_rfl) (by kernel_rfl) ?_;simp only[yU,List.take_zero,yV,List.drop_zero]
 repeat still_step
 refine wpStill_nil ?_;clear d0 d1 d2 d3 d4 d5 d6 d7 c11 c12;go_wp2_with fail;refine(U uK).mono ?_;rintro e w5 ⟨rfl,uc⟩;have vj:=Z (zg (U xR) uc oA);have uS:=Z (zy (U qd) uc);have ui:=Z (mr (U vC) uc);clear uc uK xR qd vC vL;generalize refR g.nx g.l ⟨dk,ds,dt,dl,dq,di,dp,dg⟩=rr at qr |-;have e0:=A (U vj) 0 rfl;have e9:=A (U vj) 9 rfl;have uE:=A (U vj) 11 rfl;have vH:=A (U vj) 13 rfl
 by_cases h0:rr=0
 case neg =>
  have b0:(rr != 0)=true:=by simpa using h0
  have HQ:Hid (fm=5):=by show _ = _;rw[U qr,if_neg h0]
  clear h0;go_wp2_with fail;go_ret;exact⟨by rw[U HQ];rfl,U ui⟩
 have b0:(rr != 0)=false:=by simpa using h0
 have ql:=Z (U qr);rw[if_pos h0] at ql;clear h0 qr;have c0:=A (U uS).box 0 rfl
 by_cases D:id=g.nx
 ·have b1:(id != g.nx)=false:=by simpa using D
  rw[if_pos D] at ql;clear D;go_wp2_with fail;go_quiet (fail);go_wp2_with fail;go_ret;exact⟨by rw[U ql];rfl,zR (U ui) _⟩
 ·have b1:(id != g.nx)=true:=by simpa using D
  rw[if_neg D] at ql;clear D;go_wp2_with fail;go_quiet (fail);go_wp2_with fail;go_ret;exact⟨by rw[U ql];rfl,zR (U ui) _⟩
theorem first_6 {cl B:Nat}{vl vd va:Value}{g:Gr}{t:Od}{kd n0:Int}{dy l0:List Od}(ck F ct O cq ci:Int)(cp:Nat)(cg:ByteArray)(id xj qty xk xh:Int)(w:World)(h:MS cl B w vl vd va g t kd n0 dy l0)(hi:GI g)(E:g.bg=0)(X:cg.size<=maxLen):Calls Tryz.prog 114 #[I cl 0,.agg (yv 6 ck F ct O cq ci cp cg id xj qty xk xh).toArray] w fun x w'=>x = .returned (H (fstM g.nx g.l ⟨6,⟨ck,F,ct,O,cq,ci,cp,cg⟩,id,xj,qty,xk,xh⟩))/\yn w w':=by
 have hsf:=sfl;have uP:=Z (fun W=>gX 6 W (by decide));have uz:=Z (fun W=>iP ⟨6,⟨ck,F,ct,O,cq,ci,cp,cg⟩,id,xj,qty,xk,xh⟩ W (by show(1:Int)<=6/\(6:Int)<=9;decide));have qQ:=Z (hi.good (.inl (by omega)));have HSI:=Z (hi.start E).2.2.1;have xC:=hi.len;have qr:Hid (fstM g.nx g.l ⟨6,⟨ck,F,ct,O,cq,ci,cp,cg⟩,id,xj,qty,xk,xh⟩=if refR g.nx g.l (dV ⟨6,⟨ck,F,ct,O,cq,ci,cp,cg⟩,id,xj,qty,xk,xh⟩)=0 then(if qty=leftAt g.l id then 0 else 7) else 5):=by show _ = _;simp[fstM,zX]
 have pS:Hid ((dV ⟨6,⟨ck,F,ct,O,cq,ci,cp,cg⟩,id,xj,qty,xk,xh⟩).g.size<=maxLen):=iE X;have du:=Z (h.eqn E)
 have dw:Hid (refR g.nx g.l (dV ⟨6,⟨ck,F,ct,O,cq,ci,cp,cg⟩,id,xj,qty,xk,xh⟩)=0->∃(k:Nat) (o:Od),plc g.l id=k/\g.l[k]? = some o):=fun Y=>by
  simp only[dV] at Y;obtain⟨k,o,a,b,_⟩:=plc_pos (ref_can Y);exact⟨k,o,a,b⟩
 generalize fstM g.nx g.l ⟨6,⟨ck,F,ct,O,cq,ci,cp,cg⟩,id,xj,qty,xk,xh⟩=fm at qr |-;generalize dV ⟨6,⟨ck,F,ct,O,cq,ci,cp,cg⟩,id,xj,qty,xk,xh⟩=c at uz qr pS dw;unfold evV at uz;simp only at uz;obtain⟨xD,HX⟩:=mu w (yv 6 ck F ct O cq ci cp cg id xj qty xk xh) 37;have HS:Hid ((w.alloc (mq (yv 6 ck F ct O cq ci cp cg id xj qty xk xh).toArray 37)).heap.size=w.heap.size+1):=by show _ = _;simp
 have HM:=Z (zy h xD);have HB:=Z xD;clear h xD hi E X;go_enter Tryz.func114,Tryz.ntmps114;refine ms fun mR HK=>?_;go_wp2_with fail;refine U HK _ _ ?_;clear HK;generalize (w.alloc (mq (yv 6 ck F ct O cq ci cp cg id xj qty xk xh).toArray 37))=W1 at HS HX HM HB |-;obtain⟨e0,e1,e2,e3,e4,e5,e6,e7,e8,e9,uW,uE,vS,vH⟩:=yz (U HX);go_wp2_with fail;refine(U uP W1).mono ?_;rintro e w1 ⟨rfl,qF⟩;rw[qF];clear qF;go_wp2_with fail;refine(U uz W1).mono ?_;rintro e w3 ⟨rfl,xL⟩;have hz:=U HS;obtain⟨dk,ds,dt,dl,dq,di,dp,dg⟩:=c;unfold cmV;simp only;have xy:=mn w3 (mq (yx dk ds dt dl dq di dp dg).toArray 33);have uY:=xL.trans (xy.mono xL.size);have xH:=Z (zg (U HX) uY (by omega));have jS:=Z (zy (U HM) uY);have xF:=Z (mr (U HB) uY);have vR:=Z (zn w3 (yx dk ds dt dl dq di dp dg) 33);have oA:w.heap.size<(w3.alloc (mq (yx dk ds dt dl dq di dp dg).toArray 33)).heap.size:=by have:=xL.size;simp;omega
 clear xL xy uY hz HX HM HB HS e0 e1 e2 e3 e4 e5 e6 e7 e8 e9 uW uE vS vH;go_wp2_with fail;generalize (w3.alloc (mq (yx dk ds dt dl dq di dp dg).toArray 33))=hg at xH jS xF vR oA |-;have xR:Hid (Bx hg.drew w.heap.size (yv 6 ck F ct O cq ci cp cg id xj qty xk xh)):=zM (U xH);have qd:Hid (MS cl B hg.drew vl vd va g t kd n0 dy l0):=zy (U jS) ⟨rfl,rfl,rfl,Nat.le_refl _,fun _ _=>rfl⟩;have vC:Hid (yn w hg.drew):=⟨(U xF).os,(U xF).tape,(U xF).output,(U xF).size,(U xF).block⟩;have vL:Hid (Bx hg.drew w3.heap.size (yx dk ds dt dl dq di dp dg)):=zM (U vR);clear xH jS xF vR;obtain⟨d0,d1,d2,d3,d4,d5,d6,d7⟩:=yA (U vL);have c11:=A (U qd).box 11 rfl;have c12:=A (U qd).box 12 rfl
 have uK:Hid (Calls Tryz.prog 35 #[.agg #[H n0,va],.agg (yx dk ds dt dl dq di dp dg).toArray] hg.drew fun e w'=>e = .returned (H (refR g.nx g.l ⟨dk,ds,dt,dl,dq,di,dp,dg⟩))/\Below hg.drew.heap.size hg.drew w'):=by
  have D:=(U qd).ahd;rw[(U du).2] at D;have:=iy g.nx va g.l ⟨dk,ds,dt,dl,dq,di,dp,dg⟩ hg.drew D (U qd).sla (U qQ) (U HSI) (U pS);rw[ref_eq] at this;rw[(U du).1];exact this
 refine zD 5 (by kernel_rfl) (by kernel_rfl) ?_;simp only[yU,List.take_zero,yV,List.drop_zero]
 repeat still_step
 refine wpStill_nil ?_;clear d0 d1 d2 d3 d4 d5 d6 d7 c11 c12;go_wp2_with fail;refine(U uK).mono ?_;rintro e w5 ⟨rfl,uc⟩;have vj:=Z (zg (U xR) uc oA);have uS:=Z (zy (U qd) uc);have ui:=Z (mr (U vC) uc);clear uc uK xR qd vC vL;generalize refR g.nx g.l ⟨dk,ds,dt,dl,dq,di,dp,dg⟩=rr at qr dw |-;have e0:=A (U vj) 0 rfl;have e9:=A (U vj) 9 rfl;have uE:=A (U vj) 11 rfl;have vH:=A (U vj) 13 rfl
 by_cases h0:rr=0
 case neg =>
  have b0:(rr != 0)=true:=by simpa using h0
  have HQ:Hid (fm=5):=by show _ = _;rw[U qr,if_neg h0]
  clear h0;go_wp2_with fail;go_ret;exact⟨by rw[U HQ];rfl,U ui⟩
 have b0:(rr != 0)=false:=by simpa using h0
 have ql:=Z (U qr);rw[if_pos h0] at ql;obtain⟨k,o,uA,vp⟩:=U dw h0;clear h0 qr dw;rw[leftAt_at uA vp] at ql;obtain⟨a,cap,rfl,dJ,hdc⟩:=zI (U uS).row (yO xC (by decide));obtain⟨b,off,rfl,pl,xn⟩:=hdc (by intro h;rw[h] at vp;simp at vp);obtain⟨-,-,-,y3,-,-⟩:=zF (xn k o vp);have oE:=(yH.1 vp).1;have cT:(k:Int)<g.l.length:=by omega
 have oT:(0:Int)<=k:=by omega
 have vn:=Z (zI (U uS).row (yO xC (by decide)));have c1:=A (U uS).box 1 rfl;have k1:=cell_regrown c1;have k9:=cell_regrown e9;have k11:=cell_regrown uE;have k3:=cell_regrown y3
 have cf:∀d os,Calls Tryz.prog 37 #[.slice (some (J b off)) g.l.length cap,H id] (Go.Sort.grow (redrawn w5 d) os) fun e w''=>e = .returned (H k)/\∃p:Regrown,w''=Go.Sort.grow (redrawn w5 p.d) p.os:=fun d os=>Calls.regrown_of (by
  have:=fV _ g.l id (Go.Sort.grow (redrawn w5 d) os) (zi (U vn) (below_regrown w5 d os) ya);rw[uA] at this;exact this)
 generalize o.left=ol at ql k3 y3;clear uA vp hdc xn;go_wp2_with fail;refine wp_region_quiet_below (by kernel_rfl) (by kernel_rfl) ?_;clear c1 e0 e9 uE vH y3
 repeat (quiet_step (first|(with_reducible exact cf _ _)))
 refine wpQuiet_nil ?_;rintro w' ⟨p,uq⟩
 have vZ:Hid (yn w w'):=by
  rw[uq];exact(U ui).trans ((below_regrown w5 p.d p.os).mono (U ui).size)
 clear uq cf k1 k9 k11 k3
 by_cases D:qty=ol
 ·have b1:(qty != ol)=false:=by simpa using D
  rw[if_pos D] at ql;clear D;go_wp2_with fail;go_ret;exact⟨by rw[U ql];rfl,U vZ⟩
 ·have b1:(qty != ol)=true:=by simpa using D
  rw[if_neg D] at ql;clear D;go_wp2_with fail;go_ret;exact⟨by rw[U ql];rfl,U vZ⟩
theorem first_8 {cl B:Nat}{vl vd va:Value}{g:Gr}{t:Od}{kd n0:Int}{dy l0:List Od}(ck F ct O cq ci:Int)(cp:Nat)(cg:ByteArray)(id xj qty xk xh:Int)(w:World)(h:MS cl B w vl vd va g t kd n0 dy l0)(hi:GI g)(E:g.bg=0)(X:cg.size<=maxLen):Calls Tryz.prog 114 #[I cl 0,.agg (yv 8 ck F ct O cq ci cp cg id xj qty xk xh).toArray] w fun x w'=>x = .returned (H (fstM g.nx g.l ⟨8,⟨ck,F,ct,O,cq,ci,cp,cg⟩,id,xj,qty,xk,xh⟩))/\yn w w':=by
 have hsf:=sfl;have uP:=Z (fun W=>gX 8 W (by decide));have uz:=Z (fun W=>iP ⟨8,⟨ck,F,ct,O,cq,ci,cp,cg⟩,id,xj,qty,xk,xh⟩ W (by show(1:Int)<=8/\(8:Int)<=9;decide));have qQ:=Z (hi.good (.inl (by omega)));have HSI:=Z (hi.start E).2.2.1;have xC:=hi.len;have qr:Hid (fstM g.nx g.l ⟨8,⟨ck,F,ct,O,cq,ci,cp,cg⟩,id,xj,qty,xk,xh⟩=if refR g.nx g.l (dV ⟨8,⟨ck,F,ct,O,cq,ci,cp,cg⟩,id,xj,qty,xk,xh⟩)=0 then(if qty=((dys g.l).length:Int) then 0 else 7) else 5):=by show _ = _;simp[fstM,zX]
 have pS:Hid ((dV ⟨8,⟨ck,F,ct,O,cq,ci,cp,cg⟩,id,xj,qty,xk,xh⟩).g.size<=maxLen):=iE X;have du:=Z (h.eqn E);generalize fstM g.nx g.l ⟨8,⟨ck,F,ct,O,cq,ci,cp,cg⟩,id,xj,qty,xk,xh⟩=fm at qr |-;generalize dV ⟨8,⟨ck,F,ct,O,cq,ci,cp,cg⟩,id,xj,qty,xk,xh⟩=c at uz qr pS;unfold evV at uz;simp only at uz;obtain⟨xD,HX⟩:=mu w (yv 8 ck F ct O cq ci cp cg id xj qty xk xh) 37;have HS:Hid ((w.alloc (mq (yv 8 ck F ct O cq ci cp cg id xj qty xk xh).toArray 37)).heap.size=w.heap.size+1):=by show _ = _;simp
 have HM:=Z (zy h xD);have HB:=Z xD;clear h xD hi E X;go_enter Tryz.func114,Tryz.ntmps114;refine ms fun mR HK=>?_;go_wp2_with fail;refine U HK _ _ ?_;clear HK;generalize (w.alloc (mq (yv 8 ck F ct O cq ci cp cg id xj qty xk xh).toArray 37))=W1 at HS HX HM HB |-;obtain⟨e0,e1,e2,e3,e4,e5,e6,e7,e8,e9,uW,uE,vS,vH⟩:=yz (U HX);go_wp2_with fail;refine(U uP W1).mono ?_;rintro e w1 ⟨rfl,qF⟩;rw[qF];clear qF;go_wp2_with fail;refine(U uz W1).mono ?_;rintro e w3 ⟨rfl,xL⟩;have hz:=U HS;obtain⟨dk,ds,dt,dl,dq,di,dp,dg⟩:=c;unfold cmV;simp only;have xy:=mn w3 (mq (yx dk ds dt dl dq di dp dg).toArray 33);have uY:=xL.trans (xy.mono xL.size);have xH:=Z (zg (U HX) uY (by omega));have jS:=Z (zy (U HM) uY);have xF:=Z (mr (U HB) uY);have vR:=Z (zn w3 (yx dk ds dt dl dq di dp dg) 33);have oA:w.heap.size<(w3.alloc (mq (yx dk ds dt dl dq di dp dg).toArray 33)).heap.size:=by have:=xL.size;simp;omega
 clear xL xy uY hz HX HM HB HS e0 e1 e2 e3 e4 e5 e6 e7 e8 e9 uW uE vS vH;go_wp2_with fail;generalize (w3.alloc (mq (yx dk ds dt dl dq di dp dg).toArray 33))=hg at xH jS xF vR oA |-;have xR:Hid (Bx hg.drew w.heap.size (yv 8 ck F ct O cq ci cp cg id xj qty xk xh)):=zM (U xH);have qd:Hid (MS cl B hg.drew vl vd va g t kd n0 dy l0):=zy (U jS) ⟨rfl,rfl,rfl,Nat.le_refl _,fun _ _=>rfl⟩;have vC:Hid (yn w hg.drew):=⟨(U xF).os,(U xF).tape,(U xF).output,(U xF).size,(U xF).block⟩;have vL:Hid (Bx hg.drew w3.heap.size (yx dk ds dt dl dq di dp dg)):=zM (U vR);clear xH jS xF vR;obtain⟨d0,d1,d2,d3,d4,d5,d6,d7⟩:=yA (U vL);have c11:=A (U qd).box 11 rfl;have c12:=A (U qd).box 12 rfl
 have uK:Hid (Calls Tryz.prog 35 #[.agg #[H n0,va],.agg (yx dk ds dt dl dq di dp dg).toArray] hg.drew fun e w'=>e = .returned (H (refR g.nx g.l ⟨dk,ds,dt,dl,dq,di,dp,dg⟩))/\Below hg.drew.heap.size hg.drew w'):=by
  have D:=(U qd).ahd;rw[(U du).2] at D;have:=iy g.nx va g.l ⟨dk,ds,dt,dl,dq,di,dp,dg⟩ hg.drew D (U qd).sla (U qQ) (U HSI) (U pS);rw[ref_eq] at this;rw[(U du).1];exact this
 refine zD 5 (by kernel_rfl) (by kernel_rfl) ?_;simp only[yU,List.take_zero,yV,List.drop_zero]
 repeat still_step
 refine wpStill_nil ?_;clear d0 d1 d2 d3 d4 d5 d6 d7 c11 c12;go_wp2_with fail;refine(U uK).mono ?_;rintro e w5 ⟨rfl,uc⟩;have vj:=Z (zg (U xR) uc oA);have uS:=Z (zy (U qd) uc);have ui:=Z (mr (U vC) uc);clear uc uK xR qd vC vL;generalize refR g.nx g.l ⟨dk,ds,dt,dl,dq,di,dp,dg⟩=rr at qr |-;have e0:=A (U vj) 0 rfl;have e9:=A (U vj) 9 rfl;have uE:=A (U vj) 11 rfl;have vH:=A (U vj) 13 rfl
 by_cases h0:rr=0
 case neg =>
  have b0:(rr != 0)=true:=by simpa using h0
  have HQ:Hid (fm=5):=by show _ = _;rw[U qr,if_neg h0]
  clear h0;go_wp2_with fail;go_ret;exact⟨by rw[U HQ];rfl,U ui⟩
 have b0:(rr != 0)=false:=by simpa using h0
 have ql:=Z (U qr);rw[if_pos h0] at ql;clear h0 qr;have c1:=A (U uS).box 1 rfl;have vn:=Z (zI (U uS).row (yO xC (by decide)));have HDA:=Z (fun W (h:RdR Od.vs 6 W vl g.l)=>l04Days_any vl g.l W h (yO xC (by decide)));generalize dys g.l=dn8 at ql HDA;have qz:Hid (∀W,yn w5 W->yn w W):=fun W h=>(U ui).trans (h.mono (U ui).size);go_wp2_with fail;have pT:Hid (yn w5 w5.drew):=(Below.refl _ _).drew;have hO5:=(U uS).lt;have kg:w.heap.size<w5.heap.size:=yL _ _ uE
 have HD5:Hid (∀V,yn w5 V->Calls Tryz.prog 39 #[vl] V fun e w'=>∃a6 c6,e = .returned (.slice a6 dn8.length c6)/\yn w5 w'):=fun V hV=>(U HDA V (zi (U vn) hV ya)).mono fun e w' ⟨v6,D,Y,h3⟩=>by
  obtain⟨a6,c6,rfl⟩:=iRow_slice Y;exact⟨a6,c6,D,hV.trans (h3.mono hV.size)⟩
 have qZ:Hid (∀V,yn w5 V->V.cell? (J w.heap.size 11)=some (H qty)/\V.cell? (J cl 1)=some vl):=fun V hV=>⟨(hV.cell (p:=(J w.heap.size 11)) kg).trans uE,(hV.cell (p:=(J cl 1)) hO5).trans c1⟩
 go_region_held3 (fun w'=>w'.cell? (J w.heap.size 11)=some (H qty)/\w'.cell? (J cl 1)=some vl) (first|exact U qZ _ hq|exact U qZ _ (U pT)|go_keep) ((go_at_call 39;refine(U HD5 _ (U pT)).mono ?_;rintro e V ⟨a6,c6,rfl,hq⟩))
 have vZ:=Z (U qz V hq);clear hq pT HD5 qZ;generalize dn8.length=dn at ql |-
 by_cases D:qty=(dn:Int)
 ·have b1:(qty != (dn:Int))=false:=by simpa using D
  rw[if_pos D] at ql;clear D;go_wp2_with fail;go_ret;exact⟨by rw[U ql];rfl,U vZ⟩
 ·have b1:(qty != (dn:Int))=true:=by simpa using D
  rw[if_neg D] at ql;clear D;go_wp2_with fail;go_ret;exact⟨by rw[U ql];rfl,U vZ⟩
theorem first_any {cl B:Nat}{vl vd va:Value}{g:Gr}{t:Od}{kd n0:Int}{dy l0:List Od}(e:Ev)(w:World)(h:MS cl B w vl vd va g t kd n0 dy l0)(hi:GI g)(E:g.bg=0)(hk:1<=e.kind/\e.kind<=9)(X:e.cmd.g.size<=maxLen):Calls Tryz.prog 114 #[I cl 0,evV e] w fun x w'=>x = .returned (H (fstM g.nx g.l e))/\yn w w':=by
 obtain⟨xm,⟨ck,F,ct,O,cq,ci,cp,cg⟩,id,xj,qty,xk,xh⟩:=e;unfold evV;simp only at hk X |-;rcases(show xm=1\/xm=2\/xm=3\/xm=4\/xm=5\/xm=6\/xm=7\/xm=8\/xm=9 by omega) with rfl|rfl|rfl|rfl|rfl|rfl|rfl|rfl|rfl
 ·exact first_1 ck F ct O cq ci cp cg id xj qty xk xh w h hi E X
 ·exact first_2 ck F ct O cq ci cp cg id xj qty xk xh w h hi E X
 ·exact lE 3 ck F ct O cq ci cp cg id xj qty xk xh cl g w (by decide) rfl
 ·exact lE 4 ck F ct O cq ci cp cg id xj qty xk xh cl g w (by decide) rfl
 ·exact lE 5 ck F ct O cq ci cp cg id xj qty xk xh cl g w (by decide) rfl
 ·exact first_6 ck F ct O cq ci cp cg id xj qty xk xh w h hi E X
 ·exact first_7 ck F ct O cq ci cp cg id xj qty xk xh w h hi E X
 ·exact first_8 ck F ct O cq ci cp cg id xj qty xk xh w h hi E X
 ·exact lE 9 ck F ct O cq ci cp cg id xj qty xk xh cl g w (by decide) rfl
theorem broken_any {cl B:Nat}{vl vd va:Value}{g:Gr}{t:Od}{kd n0:Int}{dy l0:List Od}(e:Ev)(w:World)(h:MS cl B w vl vd va g t kd n0 dy l0)(hi:GI g)(hm:MR g t kd dy)(hk:1<=e.kind/\e.kind<=9)(X:e.cmd.g.size<=maxLen):Calls Tryz.prog 59 #[I cl 0,evV e] w fun x w'=>x = .returned (H (zE g e))/\yn w w':=by
 have hsf:=sfl;rw[<- ruleM_eq hk];have ux:Hid (ruleM g e=if g.bg=0 then fstM g.nx g.l e else latM (dueG g) e):=rfl
 have pM:Hid (g.bg=0->∀W,MS cl B W vl vd va g t kd n0 dy l0->Calls Tryz.prog 114 #[I cl 0,evV e] W fun x w'=>x = .returned (H (fstM g.nx g.l e))/\yn W w'):=fun E W hW=>first_any e W hW hi E hk X;have HLA:=Z (fun W (hW:MS cl B W vl vd va g t kd n0 dy l0)=>later_any e W hW hi hm hk);generalize ruleM g e=ru at ux |-;generalize fstM g.nx g.l e=fm at ux pM;generalize latM (dueG g) e=lm at ux HLA;obtain⟨xm,⟨ck,F,ct,O,cq,ci,cp,cg⟩,id,xj,qty,xk,xh⟩:=e;unfold evV at pM HLA |-;simp only at pM HLA |-;obtain⟨xD,HX⟩:=mu w (yv xm ck F ct O cq ci cp cg id xj qty xk xh) 37;have HM:=Z (zy h xD);have HB:=Z xD;clear h xD hi hm hk X;go_enter Tryz.func59,Tryz.ntmps59;refine ms fun mR HK=>?_;go_wp2_with fail;refine U HK _ _ ?_;clear HK;generalize (w.alloc (mq (yv xm ck F ct O cq ci cp cg id xj qty xk xh).toArray 37))=W1 at HX HM HB |-;obtain⟨e0,e1,e2,e3,e4,e5,e6,e7,e8,e9,uW,uE,vS,vH⟩:=yz (U HX);have c9:=A (U HM).box 9 rfl
 by_cases h0:g.bg=0
 ·have b0:(g.bg != 0)=false:=by simpa using h0
  rw[b0] at c9;have ql:=Z (U pM h0 W1 (U HM));rw[if_pos h0] at ux;clear h0 b0 pM HLA;go_wp2_with fail;refine(U ql).mono ?_;rintro x w2 ⟨rfl,xO⟩;have xv:=Z (mr (U HB) xO);clear xO;go_wp2_with fail;go_ret;exact⟨by rw[U ux];rfl,U xv⟩
 ·have b0:(g.bg != 0)=true:=by simpa using h0
  rw[b0] at c9;have ql:=Z (U HLA W1 (U HM));rw[if_neg h0] at ux;clear h0 b0 pM HLA;go_wp2_with fail;refine(U ql).mono ?_;rintro x w2 ⟨rfl,xO⟩;have xv:=Z (mr (U HB) xO);clear xO;go_wp2_with fail;go_ret;exact⟨by rw[U ux];rfl,U xv⟩
end Go.Proofs.YthhkapcbocgcoaaGreatDoor
