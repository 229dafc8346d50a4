/-.-/
import Derived.Test.YthhkapcbocgcoaaGreatDoorKj24
set_option linter.unusedVariables false
set_option maxHeartbeats 6400000
set_option maxRecDepth 100000
namespace Go.Proofs.YthhkapcbocgcoaaGreatDoor
open Go.RowKit
theorem reduce_chk {G B r:Nat}{vq:Value}{g:Gr}(e:Ev)(w:World)(h:GS G B r w vq g)(hi:GI g)(he:okE e=true)(hk:e.kind=7)(X:e.cmd.g.size<=maxLen):Calls Tryz.prog 100 #[I G 0,evV e] w fun x w'=>Chk G B r vq g e w x w':=by
 have hsf:=sfl;have hG:=h.lt;have jl:=h.base;have ux:Hid (zE g e=if dW g e≠0 then dW g e else 0):=by show _ = _;rw[show zE g e=dW g e by simp[zE,hk]];split <;> simp_all
 have uQ:Hid (takG g e=⟨g.nx,setI g.l e.id e.qty,g.bg,g.cm,g.tk⟩):=by show _ = _;rw[takG,step7 hk]
 have vQ:Hid (∀k w',zE g e=k->k≠0->Kp G vq w w'->Chk G B r vq g e w (.panicked (brk k)) w'):=fun k w' D Y h3=>chk_no D Y h3;have uz:Hid (∀w' uB,zE g e=0->Kp G vq w w'->GS G B r w' uB (takG g e)->Chk G B r vq g e w (.returned (.tuple #[])) w'):=fun w' uB D Y h3=>chk_ok D Y h3;have qB:Hid (∀W,GS G B r W vq g->Calls Tryz.prog 148 #[I G 0,evV e] W fun x w'=>x=outR (dW g e)/\yn W w'):=fun W hW=>start_any e W hW hi (by rw[hk];decide) X;have dw:Hid (dW g e=0->∃(k:Nat) (o:Od),plc g.l e.id=k/\g.l[k]? = some o):=fun h0=>by have Y:=(gA h0).2;simp only[dV,hk] at Y;obtain⟨k,o,a,b,_⟩:=ref_red Y;exact⟨k,o,a,b⟩
 have HI:=Z hi;generalize Chk G B r vq g e w=C at vQ uz |-;generalize zE g e=ru at vQ uz ux;generalize takG g e=g' at uQ uz;generalize dW g e=sr at qB dw ux;obtain⟨xm,⟨ck,F,ct,O,cq,ci,cp,cg⟩,id,xj,qty,xk,xh⟩:=e;simp only at hk X
 try simp only at ux uQ
 unfold evV at qB;simp only at qB dw;unfold evV;simp only;obtain⟨xD,HX⟩:=mu w (yv xm ck F ct O cq ci cp cg id xj qty xk xh) 37;have HS:Hid ((w.alloc (mq (yv xm ck F ct O cq ci cp cg id xj qty xk xh).toArray 37)).heap.size=w.heap.size+1):=by show _ = _;simp
 have HG:=Z (zA h xD);have HB:Hid (Kp G vq w (w.alloc (mq (yv xm ck F ct O cq ci cp cg id xj qty xk xh).toArray 37))):=kp_of xD;clear h xD hi he hk X;go_enter Tryz.func100,Tryz.ntmps100;refine ms fun mR HK=>?_;go_wp2_with fail;refine U HK _ _ ?_;clear HK;generalize (w.alloc (mq (yv xm ck F ct O cq ci cp cg id xj qty xk xh).toArray 37))=W1 at HS HX HG HB |-;obtain⟨e0,e1,e2,e3,e4,e5,e6,e7,e8,e9,uW,uE,vS,vH⟩:=yz (U HX);go_wp2_with fail;refine(U qB W1 (U HG)).mono ?_;rintro x w2 ⟨hx,xO⟩;have xG:=Z (zg (U HX) xO (by have:=U HS;omega));have uj:=Z (zA (U HG) xO);have xv:=Z (ew (U HB) xO);have hS2:w.heap.size<w2.heap.size:=by have:=U HS;have:=xO.size;omega
 clear xO e0 e1 e2 e3 e4 e5 e6 e7 e8 e9 uW uE vS vH
 by_cases hs:sr=0
 case neg =>
  rw[outR_no hs] at hx;subst hx;go_wp2_with fail;exact⟨rfl,U vQ _ _ (by rw[U ux,if_pos hs]) hs (U xv)⟩
 rw[outR_ok hs] at hx;subst hx;have HSR:=Z hs;have uh:=Z (U ux);rw[if_neg (not_not_intro hs)] at uh;clear hs ux;obtain⟨k,o,uA,vp⟩:=U dw (U HSR);have xr:g.l ≠ []:=by intro h;rw[h] at vp;simp at vp
 have oE:=(yH.1 vp).1;obtain⟨gb,cap,rfl,ur,hBg,hgw⟩:=fL (U uj).row xr;have kO:=(U HI).len;have vn:=Z (zI (U uj).row (by omega));have ku:=Z uA;have ai:=Z vp;have cT:(k:Int)<g.l.length:=by omega
 have oT:(0:Int)<=k:=by omega
 clear uA vp xr dw;go_wp2_with fail;have qk:Hid (yn w2 w2.drew):=(Below.refl _ _).drew;have hG2:=(U uj).lt;have c1:=A (U uj).box 1 rfl;have c2:=A (U uj).box 2 rfl;have e9:=A (U xG) 9 rfl;have uE:=A (U xG) 11 rfl;have HPO:Hid (∀V,yn w2 V->Calls Tryz.prog 156 #[.agg #[H g.nx,.slice (some (J gb 0)) g.l.length cap],H id] V fun e w'=>e = .returned (H k)/\yn w2 w'):=fun V hV=>(iT g.nx _ g.l id V (zi (U vn) hV ya)).mono fun e w' ⟨D,Y⟩=>⟨by rw[D,U ku],hV.trans (Y.mono hV.size)⟩
 go_region_with (go_at_call 156;refine(U HPO _ (U qk)).mono ?_;rintro e w4 ⟨rfl,hq⟩;have y2:=(hq.cell (p:=(J G 2)) hG2).trans c2;have y11:=(hq.cell (p:=(J w.heap.size 11)) hS2).trans uE;have cw:=Z (gP (zA (U uj) hq).row (by omega) (U ai));have z3:=(U cw).1 3 _ rfl;have q3:=(U cw).2 3 (by omega))
 all_goals
  go_end0;have HL:=lo (zA (U uj) hq).row rfl (U ai) qty;refine U uz _ (.slice (some (J gb 0)) g.l.length cap) (U uh) ?_ ?_
  ·exact kp_row (ew (U xv) hq) HL.2 rfl
  ·rw[U uQ];simp only[setI_at (U ku) (U ai)];exact gs_rowset (zA (U uj) hq) HL.1 HL.2 rfl
end Go.Proofs.YthhkapcbocgcoaaGreatDoor
