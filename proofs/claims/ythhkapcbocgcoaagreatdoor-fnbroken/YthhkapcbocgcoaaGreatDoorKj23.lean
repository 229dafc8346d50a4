/-.-/
import Derived.Test.YthhkapcbocgcoaaGreatDoorKj20
import Derived.Test.YthhkapcbocgcoaaGreatDoorKj22
set_option linter.unusedVariables false
set_option maxHeartbeats 6400000
set_option maxRecDepth 100000
namespace Go.Proofs.YthhkapcbocgcoaaGreatDoor
open Go.RowKit
theorem eqGdE (a b:Ev)(W:World):(eqGuard .eql 103 (.tmp 22) (.tmp 24) (vlV a) (vlV b)).run Tryz.prog W = .ok () W:=by
 unfold vlV;go_simp
theorem implOK_any (e:Ev)(he:e.fit)(w:World)(hE:ErrT w):Calls Tryz.prog 18 #[evV e] w fun r w'=>r = .returned (.bool (okE e))/\yn w w':=by
 have hsf:=sfl;obtain⟨xD,uV⟩:=mu w e.vs 37;have jk:Hid ((w.alloc (Obj.cells e.vs.toArray 37)).heap.size=w.heap.size+1):=by show _ = _;simp
 have bI:=Z (fK hE xD ya);have uf:=Z xD;have HAD:=Z (fun(hk:1<=e.kind/\e.kind<=9) W=>addEvent_any e he hk W.heap.size (.slice none 0 0) [] W ya (World.ownsRow_nil _ _ _ _) (by simp));have jF:=Z (fun(hk:1<=e.kind/\e.kind<=9)=>evA_wr e he ((shF_ne e.kind).2 hk) []);have HLN:=Z (evL_len e he);have HBT:=Z (evL_bts e);have HQ:=Z (fun(hk:1<=e.kind/\e.kind<=9)=>okE_eq e hk)
 have HNO:Hid (¬ (1<=e.kind/\e.kind<=9)->okE e=false):=fun h=>by
  unfold okE;rw[if_pos (by unfold fldK;rw[if_neg (by omega),if_neg (by omega),if_neg (by omega),if_neg (by omega),if_neg (by omega)])]
 have HVA:=Z (fun W=>lC e W);have HVB:=Z (fun W=>lC (bkE e) W);have HSM:=Z (fun W=>eqVlE (bkE e) e W);have qm:=Z (fun W=>eqGdE (bkE e) e W);have jo:=shF_ne e.kind;clear he xD;generalize okE e=ok at *;generalize bkE e=b at *;generalize evL e=hR at *;have HVE:Hid (evV e = .agg e.vs.toArray):=rfl;generalize sameE b e=sm at *;generalize vlV e=vl at *;generalize vlV b=vb at *;obtain⟨xm,⟨ck,F,ct,O,cq,ci,cp,cg⟩,id,xj,qty,xk,xh⟩:=e;unfold evV at HVA HAD |-;unfold Ev.vs at uV jk bI uf;simp only at HVA HAD uV jk bI uf jo jF HBT HQ HNO |-;go_enter Tryz.func18,Tryz.ntmps18;refine ms fun mR xE=>?_;go_wp2_with fail;refine U xE _ _ ?_;clear xE;generalize (w.alloc (mq (yv xm ck F ct O cq ci cp cg id xj qty xk xh).toArray 37))=W1 at uV jk bI uf |-;have x0:=A (U uV) 0 rfl;go_wp2_with fail;refine(shape_any xm W1).mono ?_;rintro r W2 ⟨fv,fs,rfl,hof,hff,xO⟩;have vV:=(ffs_get hff).1;obtain⟨fa,pe,rfl,cO,uF⟩:=hof;clear hff uF;have xv:=Z xO;clear xO;go_wp2_with fail;refine(isKind_any (shC xm) fa fs.length pe W2).mono ?_;rintro r W3 ⟨rfl,xL⟩;have xI:=Z (mr (U xv) xL);clear xL
 by_cases hk:1<=xm/\xm<=9
 ·have jO:decide (0<fs.length)=true:=by
   rw[<- vV,decide_eq_true_iff];exact List.length_pos_iff.2 (jo.2 hk)
  rw[jO];have kh:=zg (U uV) (U xI) (by rw[U jk];omega);obtain ⟨z0,z1,z2,z3,z4,z5,z6,z7,z8,z9,jD,ko,kp,kq⟩:=q0_14 kh rfl;have uT:=Z kh;have HW3:=Z ((U uf).trans ((U xI).mono (U uf).size));have HE3:=Z (fK (U bI) (U xI) ya);have HAD3:=Z (U HAD hk W3);have hz3:w.heap.size<W3.heap.size:=by have:=(U xI).size;rw[U jk] at this;omega
  clear kh jO xv xI uV bI uf vV cO x0;go_wp2_with fail;refine(U HAD3).mono ?_;rintro r W4 ⟨v4,rfl,hr4,jv,hq4⟩;rw[List.nil_append] at hr4;have kO:=U HLN;have bp:=bRow_own hr4 kO.1 (by omega);have xy:yn W3 W4:=⟨jv.os,jv.tape,jv.output,jv.size,fun i hi=>jv.block i hi (by simp[Value.ownBlock])⟩;have HDC:=Z (implDecode_any v4 hR 0 W4 (own_rd bp.own) (capOk_own bp) (U HBT hk) (fK (U HE3) xy ya));have kj:evR hR 0=(b,((hR.length:Nat):Int),0):=evR_some (k:=0) (by omega) (by omega) (by have:=U jF hk;rwa[List.append_nil] at this);rw[kj] at HDC;have xH:=Z (zg (U uT) xy hz3);have oP:=Z (mr (U HW3) xy);have hz4:w.heap.size<W4.heap.size:=yK hz3 xy.size;clear hr4 jv hq4 bp xy kj HE3 HAD3 uT HW3 hz3 z0 z1 z2 z3 z4 z5 z6 z7 z8 z9 jD ko kp kq;go_wp2_with fail;refine(U HDC).mono ?_;rintro r W5 ⟨rfl,uc⟩;unfold tupE;have hX5:=zg (U xH) uc hz4;have HW5:=Z (mr (U oP) uc);have hz5:w.heap.size<W5.heap.size:=yK hz4 uc.size;obtain⟨oN,⟨ck',cs',ct',cl',cq',ci',cp',cg'⟩,id',jy,dh,jz,qG⟩:=b;unfold evV at HVB |-;simp only at HVB |-;have jm:=mn W5 (mq (yv oN ck' cs' ct' cl' cq' ci' cp' cg' id' jy dh jz qG).toArray 37);have oR:Hid (Bx (W5.alloc (mq (yv oN ck' cs' ct' cl' cq' ci' cp' cg' id' jy dh jz qG).toArray 37)) W5.heap.size (yv oN ck' cs' ct' cl' cq' ci' cp' cg' id' jy dh jz qG)):=zn W5 (yv oN ck' cs' ct' cl' cq' ci' cp' cg' id' jy dh jz qG) 37;have vJ:=Z (zg hX5 jm hz5);have HW6:=Z (mr (U HW5) jm);have HZ6:Hid ((W5.alloc (mq (yv oN ck' cs' ct' cl' cq' ci' cp' cg' id' jy dh jz qG).toArray 37)).heap.size=W5.heap.size+1):=by show _ = _;simp
  clear uc jm hX5 xH oP HW5 hz4 HDC;go_wp2_with fail;generalize (W5.alloc (mq (yv oN ck' cs' ct' cl' cq' ci' cp' cg' id' jy dh jz qG).toArray 37))=W6 at oR vJ HW6 HZ6 |-
  have HCB:Hid (Calls Tryz.prog 49 #[.agg (yv oN ck' cs' ct' cl' cq' ci' cp' cg' id' jy dh jz qG).toArray] W6.drew fun r W7=>r = .returned vb/\Bx W7 w.heap.size (yv xm ck F ct O cq ci cp cg id xj qty xk xh)/\yn w W7):=by
   refine(U HVB W6.drew).mono ?_;rintro r W7 ⟨rfl,qE⟩;exact⟨rfl,zg (zM (U vJ)) qE (by show w.heap.size<W6.heap.size;rw[U HZ6];omega),(U HW6).drew.trans (qE.mono (U HW6).drew.size)⟩
  obtain⟨x0,x1,x2,x3,x4,x5,x6,x7,x8,x9,kS,kT,kU,kV⟩:=yz (U vJ);obtain⟨y0,y1,y2,y3,y4,y5,y6,y7,y8,y9,dO,y11,y12,y13⟩:=yz (U oR);have hsm:=fun W=>U HSM W;have bd:=fun W=>U qm W;have HQQ:=Z (U HQ hk);clear oR vJ HVB
  go_region_with (go_at_call 49;first|(with_reducible refine(U HCB).mono ?_;rintro r W7 ⟨rfl,cI,hW7⟩;have HW7:=Z hW7;obtain ⟨g0,g1,g2,g3,g4,g5,g6,g7,g8,g9,jL,jB,vY,kI⟩:=q0_14 cI rfl;clear cI hW7)|(refine(U HVA _).mono ?_;rintro r W8 ⟨rfl,hb8⟩;have HW8:=Z (mr (U HW7) hb8);clear hb8))
  all_goals try go_wp2_with fail
  all_goals
   refine bodyPost_ret (v:=.bool sm) ?_ rfl ⟨by rw[U HQQ],U HW8⟩;simp[results,Tryz.f18,go_sem]
 ·have jO:decide (0<fs.length)=false:=by
   rw[<- vV,decide_eq_false_iff_not];intro h;exact hk (jo.1 (List.length_pos_iff.1 h))
  rw[jO];go_wp2_with fail;go_ret;exact⟨by rw[U HNO hk];rfl,(U uf).trans ((U xI).mono (U uf).size)⟩
end Go.Proofs.YthhkapcbocgcoaaGreatDoor
