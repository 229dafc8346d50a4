/-.-/
import Derived.Test.YtbghmldggahjiaaGreatDoorUj30
set_option linter.unusedVariables false
set_option maxHeartbeats 6400000
set_option maxRecDepth 100000
namespace Go.Proofs.YtbghmldggahjiaaGreatDoor
open Go.RowKit
def takG (g:Gr)(e:Ev):Gr:={ dK g e with bg:=g.bg }
structure Kp (G:Nat) (vq:Value) (w w':World):Prop where
 os:w'.os=w.os
 tape:w'.tape=w.tape
 output:w'.output=w.output
 size:w.heap.size<=w'.heap.size
 block:∀k,k<w.heap.size->k≠G->some k≠vq.ownBlock->w'.heap[k]? = w.heap[k]?
section
variable {G:Nat} {vq:Value} {w W W':World}
theorem eL (h:yn w W):Kp G vq w W:=⟨h.os,h.tape,h.output,h.size,fun k X _ _=>h.block k X⟩
theorem eg (h:Kp G vq w W)(A:yn W W'):Kp G vq w W':=
 ⟨A.os.trans h.os,A.tape.trans h.tape,A.output.trans h.output,yN h.size A.size,fun k X D E=>(A.block k (yJ X h.size)).trans (h.block k X D E)⟩
theorem ie (h:Kp G vq w W):Kp G vq w W.drew:=⟨h.os,h.tape,h.output,h.size,h.block⟩
theorem kp_set (h:Kp G vq w W)(j:Nat)(u:Value):Kp G vq w (W.setCell (U G j) u):=
 ⟨h.os,h.tape,h.output,by have:=h.size;simpa[World.setCell] using this,fun k X D E=>(yS _ _ _ _ D).trans (h.block k X D E)⟩
theorem kp_sets:∀ {W:World}(h:Kp G vq w W)(o:Nat)(us:List Value),Kp G vq w (W.setCells G o us)
 | _,h,_,[]=>h
 | _,h,o,u::us=>by rw[World.setCells];exact kp_sets (kp_set h o u) (o+1) us
theorem kp_took (h:Kp G vq w W)(ht:TookAt G 1 vq.ownBlock W W'):Kp G vq w W':=
 ⟨ht.os.trans h.os,ht.tape.trans h.tape,ht.output.trans h.output,yN h.size ht.size,fun k X D E=>(ht.block k (yJ X h.size) D E).trans (h.block k X D E)⟩
theorem kp_row {b:Nat}(h:Kp G vq w W)(M:W.grownBy W' (some b))(A:vq.ownBlock=some b):Kp G vq w W':=
 ⟨M.os.trans h.os,M.tape.trans h.tape,M.output.trans h.output,yN h.size M.size,fun k X D E=>(M.block k (yJ X h.size) (by rw[<- A];exact E)).trans (h.block k X D E)⟩
theorem kp_to {B r:Nat}{g:Gr}(h:Kp G vq w W)(hs:GS G B r w vq g):Below B w W:=
 ⟨h.os,h.tape,h.output,h.size,fun k X=>h.block k (yJ X (yN hs.hG (Nat.le_of_lt hs.lt))) (by have:=hs.hG;omega) (fun e=>by have:=(hs.row.lt k e.symm).1;omega)⟩
end
def Chk (G B r:Nat)(vq:Value)(g:Gr)(e:Ev)(w:World)(x:Ending)(w':World):Prop:=x=outR (zx g e)/\Kp G vq w w'/\(zx g e=0->∃ux,GS G B r w' ux (takG g e))
section
variable {G B r:Nat} {vq:Value} {g:Gr} {e:Ev} {w w':World}
theorem chk_no {k:Int}(h:zx g e=k)(X:k≠0)(A:Kp G vq w w'):Chk G B r vq g e w (.panicked (brk k)) w':=
 ⟨by rw[h,outR_no X],A,fun h0=>absurd (h.symm.trans h0) X⟩
theorem chk_ok {ux:Value}(h:zx g e=0)(A:Kp G vq w w')(hs:GS G B r w' ux (takG g e)):Chk G B r vq g e w (.returned (.tuple #[])) w':=
 ⟨by rw[outR_ok h],A,fun _=>⟨ux,hs⟩⟩
end
theorem GS.base {G B r:Nat}{W:World}{vq:Value}{g:Gr}(h:GS G B r W vq g):B<=W.heap.size:=yN h.hG (Nat.le_of_lt h.lt)
theorem bx_setAt {b:Nat}:∀(us:List Value) (o:Nat) (W:World) (vs:List Value),Bx W b vs->o+us.length<=vs.length->Bx (W.setCells b o us) b (vs.take o++us++vs.drop (o+us.length))
 | [],o,W,vs,h,_=>by simpa[World.setCells] using h
 | u::us,o,W,vs,h,hl=>by
  have K:o<vs.length:=by simp at hl;omega
  have D:=bx_setAt us (o+1) (W.setCell (U b o) u) (vs.set o u) (eh h K) (by simp at hl |-;omega);rw[World.setCells]
  have e:(vs.set o u).take (o+1)++us++(vs.set o u).drop (o+1+us.length)=vs.take o++(u::us)++vs.drop (o+(u::us).length):=by
   rw[List.drop_set_of_lt (by omega),List.take_add_one,List.take_set_of_le ya,List.getElem?_set_self K];simp[Nat.add_assoc,Nat.add_comm 1 us.length]
  rwa[e] at D
theorem eP {B e sz n:Nat}{v:Value}{xs:List Value}{b:Nat}(A:some b≠v.ownBlock):∀(us:List Value) (o:Nat) (W:World),W.ownsRow B e sz v n xs->(W.setCells b o us).ownsRow B e sz v n xs
 | [],_,_,h=>h
 | u::us,o,W,h=>by rw[World.setCells];exact eP A us (o+1) _ (dT h A o u)
theorem gZ {p:Nat}{t:TypeId}{x:Nat × Nat}:∀(us:List Value) (o:Nat) (W:World),(∃xr,W.heap[p]? = some (.cells xr t x))->∃xr,(W.setCells p o us).heap[p]? = some (.cells xr t x)
 | [],_,_,h=>h
 | u::us,o,W,⟨xr,h⟩=>by rw[World.setCells];exact gZ us (o+1) _ (fd W p o u h)
theorem gs_sets {G B r:Nat}{W:World}{vq:Value}{g g':Gr}(h:GS G B r W vq g)(o:Nat)(us:List Value)(hl:o+us.length<=16)(he:gsV r vq g'=(gsV r vq g).take o++us++(gsV r vq g).drop (o+us.length))(om:g'.l=g.l):GS G B r (W.setCells G o us) vq g':=
 ⟨by rw[he];exact bx_setAt us o W _ h.box hl,by rw[om];exact eP h.nq us o W h.row,gZ us o W h.typ,(ep G r h.ne us o W).trans h.mp,h.hG,h.hr⟩
theorem gs_rowset {G B r:Nat}{W W':World}{vq:Value}{g:Gr}{l':List Od}{b:Nat}(h:GS G B r W vq g)(K:ORow W' B vq l')(M:W.grownBy W' (some b))(A:vq.ownBlock=some b):GS G B r W' vq { g with l:=l' }:=by
 have nG:some G≠some b:=by rw[<- A];exact h.nq
 have nr:some r≠some b:=by rw[<- A];exact h.nr
 refine⟨zQ h.box (M.block G h.lt nG),K,?_,(M.block r h.rlt nr).trans h.mp,h.hG,h.hr⟩;obtain⟨xr,hc⟩:=h.typ;exact⟨xr,(M.block G h.lt nG).trans hc⟩
theorem accept_chk {G B r:Nat}{vq:Value}{g:Gr}(e:Ev)(w:World)(h:GS G B r w vq g)(hi:GI g)(he:okE e=true)(X:e.kind=1)(M:e.cmd.g.size<=maxLen):Calls Tryz.prog 60 #[xj G 0,evV e] w fun x w'=>Chk G B r vq g e w x w':=by
 have hsf:=sfl;have hG:=h.lt;have jA:=h.base;have uy:Hid (zx g e=if zX g e≠0 then zX g e else if e.id=g.nx then 0 else 6):=by show _ = _;simp[zx,X]
 have uV:Hid (takG g e=⟨g.nx+1,g.l,g.bg,e.cmd,ordO e.cmd e.id⟩):=by show _ = _;rw[takG,step1 X]
 have qf:Hid (∀k w',zx g e=k->k≠0->Kp G vq w w'->Chk G B r vq g e w (.panicked (brk k)) w'):=fun k w' D E h3=>chk_no D E h3;have uF:Hid (∀w' ux,zx g e=0->Kp G vq w w'->GS G B r w' ux (takG g e)->Chk G B r vq g e w (.returned (.tuple #[])) w'):=fun w' ux D E h3=>chk_ok D E h3;have qS:Hid (∀W,GS G B r W vq g->Calls Tryz.prog 95 #[xj G 0,evV e] W fun x w'=>x=outR (zX g e)/\yn W w'):=fun W hW=>start_any e W hW hi (by rw[X];decide) M;have vn:Hid (zX g e=0->0<=g.nx/\g.nx<=1000000):=fun h0=>⟨(hi.start (fu h0).1).1,(hi.start (fu h0).1).2.1⟩;have HI:=Q hi;generalize Chk G B r vq g e w=C at qf uF |-;generalize zx g e=ru at qf uF uy;generalize takG g e=g' at uV uF;generalize zX g e=sr at qS vn uy;obtain⟨xl,⟨ck,cs,ct,cl,cq,ci,cp,cg⟩,id,xh,qty,xi,xg⟩:=e;simp only at X M
 try simp only at uy uV
 unfold evV at qS;simp only at qS;unfold evV;simp only;obtain⟨xA,HX⟩:=lY w (yv xl ck cs ct cl cq ci cp cg id xh qty xi xg) 89;have HS:Hid ((w.alloc (J (yv xl ck cs ct cl cq ci cp cg id xh qty xi xg).toArray 89)).heap.size=w.heap.size+1):=by show _ = _;simp
 have HG:=Q (zu h xA);have HB:Hid (Kp G vq w (w.alloc (J (yv xl ck cs ct cl cq ci cp cg id xh qty xi xg).toArray 89))):=eL xA;clear h xA hi he X M;go_enter Tryz.func60,Tryz.ntmps60;refine lX fun ho HK=>?_;go_wp2_with fail;refine Z HK _ _ ?_;clear HK;generalize (w.alloc (J (yv xl ck cs ct cl cq ci cp cg id xh qty xi xg).toArray 89))=W1 at HS HX HG HB |-;obtain⟨e0,e1,e2,e3,e4,e5,e6,e7,e8,e9,uL,uG,vJ,vu⟩:=yy (Z HX);go_wp2_with fail;refine(Z qS W1 (Z HG)).mono ?_;rintro x w2 ⟨hx,xE⟩;have xF:=Q (zf (Z HX) xE (by have:=Z HS;omega));have ua:=Q (zu (Z HG) xE);have xq:=Q (eg (Z HB) xE);have hS2:w.heap.size<w2.heap.size:=by have:=Z HS;have:=xE.size;omega
 clear xE e0 e1 e2 e3 e4 e5 e6 e7 e8 e9 uL uG vJ vu
 by_cases hs:sr=0
 case neg =>
  rw[outR_no hs] at hx;subst hx;go_wp2_with fail;exact⟨rfl,Z qf _ _ (by rw[Z uy,if_pos hs]) hs (Z xq)⟩
 rw[outR_ok hs] at hx;subst hx;have HSR:=Q hs;have uo:=Q (Z uy);rw[if_neg (not_not_intro hs)] at uo;clear hs uy;have xW:Hid (Bx w2.drew w.heap.size (yv xl ck cs ct cl cq ci cp cg id xh qty xi xg)):=zm (Z xF);have qM:Hid (GS G B r w2.drew vq g):=zu (Z ua) ⟨rfl,rfl,rfl,Nat.le_refl _,fun _ _=>rfl⟩;have uk:Hid (Kp G vq w w2.drew):=ie (Z xq);have e9:=Y (Z xW) 9 rfl;have c1:=Y (Z qM).box 1 rfl;go_wp2_with fail;refine zw 8 (by kernel_rfl) (by kernel_rfl) ?_;simp only[yT,List.take_zero,yU,List.drop_zero]
 repeat still_step
 refine wpStill_nil ?_
 by_cases uf:id=g.nx
 case neg =>
  have b0:(id==g.nx)=false:=by simpa using uf
  have HQ:=Q (Z uo);rw[if_neg uf] at HQ;clear uf;go_wp2_with fail;refine(ez 6 _).mono ?_;rintro e w6 ⟨rfl,rfl⟩;go_wp2_with fail;exact⟨rfl,Z qf 6 _ (Z HQ) (by decide) (Z uk)⟩
 have b0:(id==g.nx)=true:=by simpa using uf
 have HQ:=Q (Z uo);rw[if_pos uf] at HQ;clear uf uo;go_wp2_with fail;refine(eG 6 _).mono ?_;rintro e hk ⟨rfl,hX⟩;rw[<- hX] at xW qM uk;have hS3:w.heap.size<hk.heap.size:=by rw[hX];exact hS2
 clear hX e9 c1 b0;have c1:=Y (Z qM).box 1 rfl;have q1:=zc (Z qM).box 1 (by show 1<16;decide);have qw:=Z vn (Z HSR);have hwr:IntKind.i64.wrap (g.nx+1)=g.nx+1:=by rw[IntKind.wrap_i64];omega
 have uD:Hid (GS G B r (hk.setCell (U G 1) (H (g.nx+1))) vq { g with nx:=g.nx+1 }):=gs_set (Z qM) 1 _ (by decide) rfl rfl;have xZ:=Q (kp_set (Z uk) 1 (H (g.nx+1)));have uz:Hid (Bx (hk.setCell (U G 1) (H (g.nx+1))) w.heap.size (yv xl ck cs ct cl cq ci cp cg id xh qty xi xg)):=ej (Z xW) (by omega);have kJ:w.heap.size<(hk.setCell (U G 1) (H (g.nx+1))).heap.size:=by simpa[World.setCell] using hS3
 have e1:=Y (Z uz) 1 rfl;have e2:=Y (Z uz) 2 rfl;have e3:=Y (Z uz) 3 rfl;have e4:=Y (Z uz) 4 rfl;have e5:=Y (Z uz) 5 rfl;have e6:=Y (Z uz) 6 rfl;have e7:=Y (Z uz) 7 rfl;have e8:=Y (Z uz) 8 rfl;have e9:=Y (Z uz) 9 rfl;go_wp2_with fail;refine(lR ⟨ck,cs,ct,cl,cq,ci,cp,cg⟩ _).mono ?_;rintro e zb ⟨rfl,xX⟩;have uQ:=Q (zu (Z uD) xX);have uK:=Q (zf (Z uz) xX kJ);have uT:=Q (eg (Z xZ) xX);have hS5:w.heap.size<zb.heap.size:=yJ kJ xX.size;clear xX e1 e2 e3 e4 e5 e6 e7 e8 e9 c1 q1 hwr kJ hS3 uD uz xZ xW qM uk;unfold noV;simp only;have c4:=Y (Z uQ).box 4 rfl;have q4:=zc (Z uQ).box 4 (by show 4<16;decide);have c5:=Y (Z uQ).box 5 rfl;have q5:=zc (Z uQ).box 5 (by show 5<16;decide);have c6:=Y (Z uQ).box 6 rfl;have q6:=zc (Z uQ).box 6 (by show 6<16;decide);have c7:=Y (Z uQ).box 7 rfl;have q7:=zc (Z uQ).box 7 (by show 7<16;decide);have c8:=Y (Z uQ).box 8 rfl;have q8:=zc (Z uQ).box 8 (by show 8<16;decide);have c9:=Y (Z uQ).box 9 rfl;have q9:=zc (Z uQ).box 9 (by show 9<16;decide);go_wp2_with fail;change Code.wp _ _ _ _ (World.setCells zb G 4 [H cs,H ct,H cl,H cq,yj cp,yk cg]);have vj:Hid (GS G B r (World.setCells zb G 4 [H cs,H ct,H cl,H cq,yj cp,yk cg]) vq ⟨g.nx+1,g.l,g.bg,⟨ck,cs,ct,cl,cq,ci,cp,cg⟩,g.tk⟩):=gs_sets (Z uQ) 4 _ (by simp) rfl rfl;have vE:Hid (Bx (World.setCells zb G 4 [H cs,H ct,H cl,H cq,yj cp,yk cg]) w.heap.size (yv xl ck cs ct cl cq ci cp cg id xh qty xi xg)):=zQ (Z uK) (ep G w.heap.size (by omega) _ 4 zb);have kh:=Q (kp_sets (Z uT) 4 [H cs,H ct,H cl,H cq,yj cp,yk cg]);have hS6:w.heap.size<(World.setCells zb G 4 [H cs,H ct,H cl,H cq,yj cp,yk cg]).heap.size:=yK _ _ (Y (Z vE) 0 rfl);generalize World.setCells zb G 4 [H cs,H ct,H cl,H cq,yj cp,yk cg]=za at vj vE kh hS6 |-;clear c4 q4 c5 q5 c6 q6 c7 q7 c8 q8 c9 q9 uQ uK uT hS5;have HOR:=Q (fun W=>order_any ⟨ck,cs,ct,cl,cq,ci,cp,cg⟩ id W);unfold noV at HOR;unfold ordO at uV;simp only at uV HOR;generalize tk cp=tkp at uV HOR;have hZG:=Z vj;clear hZG;refine zL (RWA (fun f=>{ tmps:=#[xj G 0,.agg (yv xl ck cs ct cl cq ci cp cg id xh qty xi xg).toArray,F,xj w.heap.size 0,xj G 0,.agg (yv xl ck cs ct cl cq ci cp cg id xh qty xi xg).toArray,.tuple #[],xj w.heap.size 9,H id,xj G 0,xj G 0,xj G 1,xj G 1,H g.nx,.bool (id==g.nx),.tuple #[],xj G 0,xj G 0,xj G 1,xj G 1,H g.nx,H (g.nx+1),xj G 0,xj G 1,xj G 1,xj G 0,xj w.heap.size 1,.agg (yx ck cs ct cl cq ci cp cg).toArray,.agg #[H cs,H ct,H cl,H cq,yj cp,yk cg],xj G 0,xj G 4,f 0,f 1,f 2,f 3,f 4,f 5,f 6,f 7,f 8,f 9],defers:=[] }) (CVw [some (xj G 0),some (xj G 0),some (xj G 0),some (xj G 4),some (.agg #[H cs,H ct,H cl,H cq,yj cp,yk cg]),some (xj w.heap.size 9),some (H id),some (.agg (yw id cs tkp cq cl cg).toArray),some (xj G 0),some (xj G 10),none] (fun _=>True)) 10 (fun V=>World.setCells V G 10 (yw id cs tkp cq cl cg)) za) (by kernel_rfl) ?_ ?_ ?_
 ·exact⟨fun _=>F,rfl,⟨fun j hj=>by rw[yI] at hj;split at hj <;> simp at hj,fun _=>⟨rfl,rfl,rfl,Nat.le_refl _,fun _ _=>rfl⟩,fun hj=>by rw[yI] at hj;split at hj <;> simp at hj⟩⟩
 ·rintro x hb V ⟨f,rfl,hR⟩ hx xU;have xv:=eJ xU hx (acyc _ (by kernel_rfl));obtain⟨V0,xA,eV⟩:=hR.m (xv 10 (by simp));have qY:=Q (zu (Z vj) xA);have kA:=Q (eg (Z kh) xA);clear hR xv xU hx xA;subst eV;generalize f 0=v0,f 1=v1,f 2=v2,f 3=v3,f 4=v4,f 5=v5,f 6=v6,f 7=v7,f 8=v8,f 9=v9;go_end0;refine Z uF _ vq (Z HQ) (kp_sets (Z kA) 10 _) ?_;rw[Z uV];exact gs_sets (Z qY) 10 _ (by simp) rfl rfl
 ·rintro x hb V i op ⟨f,rfl,hR⟩ xm hx K xJ I;have xu:=Q hR
  have nw:i<10->x[10]? = some false:=fun xH=>by
   rcases fj hx (show 10<11 by omega) with hq|hw
   ·exact hq
   ·exfalso;have h0:=yf xm 10 rfl hw 0 rfl;have D:=yf xm 10 rfl hw 1 rfl;have E:=yf xm 10 rfl hw 2 rfl;have h3:=yf xm 10 rfl hw 3 rfl;have h4:=yf xm 10 rfl hw 4 rfl;have h5:=yf xm 10 rfl hw 5 rfl;have h6:=yf xm 10 rfl hw 6 rfl;have h7:=yf xm 10 rfl hw 7 rfl;have h9:=yf xm 10 rfl hw 9 rfl;have h8:=yf xm 9 rfl h9 8 rfl;rcases(by omega:i=0\/i=1\/i=2\/i=3\/i=4\/i=5\/i=6\/i=7\/i=8\/i=9) with rfl|rfl|rfl|rfl|rfl|rfl|rfl|rfl|rfl|rfl
    ·exact absurd (h0.symm.trans xJ) (by simp)
    ·exact absurd (D.symm.trans xJ) (by simp)
    ·exact absurd (E.symm.trans xJ) (by simp)
    ·exact absurd (h3.symm.trans xJ) (by simp)
    ·exact absurd (h4.symm.trans xJ) (by simp)
    ·exact absurd (h5.symm.trans xJ) (by simp)
    ·exact absurd (h6.symm.trans xJ) (by simp)
    ·exact absurd (h7.symm.trans xJ) (by simp)
    ·exact absurd (h8.symm.trans xJ) (by simp)
    ·exact absurd (h9.symm.trans xJ) (by simp)
  have uR:i<10->yn za V:=fun h=>hR.b (nw h);have xn:i<10->∀(p:Addr) u,za.cell? p=some u->V.cell? p=some u:=fun h p u hu=>((uR h).cell (yK za _ hu)).trans hu
  match i,K with
  | 0,K|1,K =>
   obtain rfl:=yb K;have CL:=xn (by omega);clear I hR uR xn nw CL;rw[if_pos (by rfl)];unfold Oper.wp;go_simp;exact⟨upd f _ (xj G 0),by simp[upd],zW (Z xu) _ _ ⟨yi rfl,trivial⟩ (by decide)⟩
  | 2,K =>
   obtain rfl:=yb K;have g1:=(hR.c 1 (ye I 1 rfl)).1 _ rfl;have CL:=xn (by omega);clear I hR uR xn nw CL;rw[if_pos (by rfl)];unfold Oper.wp;go_simp;exact⟨upd f 2 (xj G 0),by simp[upd,g1],zW (Z xu) 2 _ ⟨yi rfl,trivial⟩ (by decide)⟩
  | 3,K =>
   obtain rfl:=yb K;have g2:=(hR.c 2 (ye I 2 rfl)).1 _ rfl;have CL:=xn (by omega);clear I hR uR xn nw CL;rw[if_pos (by rfl)];unfold Oper.wp;go_simp;exact⟨upd f 3 (xj G 4),by simp[upd,g2],zW (Z xu) 3 _ ⟨yi rfl,trivial⟩ (by decide)⟩
  | 4,K =>
   obtain rfl:=yb K;have g3:=(hR.c 3 (ye I 3 rfl)).1 _ rfl;have CL:=xn (by omega);have z4:=CL (U G 4) _ (Y (Z vj).box 4 rfl);have z5:=CL (U G 5) _ (Y (Z vj).box 5 rfl);have z6:=CL (U G 6) _ (Y (Z vj).box 6 rfl);have z7:=CL (U G 7) _ (Y (Z vj).box 7 rfl);have z8:=CL (U G 8) _ (Y (Z vj).box 8 rfl);have z9:=CL (U G 9) _ (Y (Z vj).box 9 rfl);clear I hR uR xn nw CL;rw[if_pos (by rfl)];unfold Oper.wp;go_simp;exact⟨upd f 4 (.agg #[H cs,H ct,H cl,H cq,yj cp,yk cg]),by simp[upd,g3],zW (Z xu) 4 _ ⟨yi rfl,trivial⟩ (by decide)⟩
  | 5,K =>
   obtain rfl:=yb K;have CL:=xn (by omega);clear I hR uR xn nw CL;rw[if_pos (by rfl)];unfold Oper.wp;go_simp;exact⟨upd f 5 (xj w.heap.size 9),by simp[upd],zW (Z xu) 5 _ ⟨yi rfl,trivial⟩ (by decide)⟩
  | 6,K =>
   obtain rfl:=yb K;have g5:=(hR.c 5 (ye I 5 rfl)).1 _ rfl;have CL:=xn (by omega);have z:=CL (U w.heap.size 9) _ (Y (Z vE) 9 rfl);clear I hR uR xn nw CL;rw[if_pos (by rfl)];unfold Oper.wp;go_simp;exact⟨upd f 6 (H id),by simp[upd,g5],zW (Z xu) 6 _ ⟨yi rfl,trivial⟩ (by decide)⟩
  | 7,K =>
   obtain rfl:=yb K;have g4:=(hR.c 4 (ye I 4 rfl)).1 _ rfl;have g6:=(hR.c 6 (ye I 6 rfl)).1 _ rfl;have CL:=xn (by omega);have vv:=nw (by omega);clear I hR uR xn nw CL;rw[if_pos (by rfl)];unfold Oper.wp;go_simp;refine(Z HOR V).mono ?_;rintro e w4 ⟨rfl,xz⟩;exact⟨upd f 7 (.agg (yw id cs tkp cq cl cg).toArray),by simp[upd,g4,g6],zW (im (Z xu) vv xz) 7 _ ⟨yi rfl,trivial⟩ (by decide)⟩
  | 8,K =>
   obtain rfl:=yb K;have g0:=(hR.c 0 (ye I 0 rfl)).1 _ rfl;have CL:=xn (by omega);clear I hR uR xn nw CL;rw[if_pos (by rfl)];unfold Oper.wp;go_simp;exact⟨upd f 8 (xj G 0),by simp[upd,g0],zW (Z xu) 8 _ ⟨yi rfl,trivial⟩ (by decide)⟩
  | 9,K =>
   obtain rfl:=yb K;have g8:=(hR.c 8 (ye I 8 rfl)).1 _ rfl;have CL:=xn (by omega);clear I hR uR xn nw CL;rw[if_pos (by rfl)];unfold Oper.wp;go_simp;exact⟨upd f 9 (xj G 10),by simp[upd,g8],zW (Z xu) 9 _ ⟨yi rfl,trivial⟩ (by decide)⟩
  | 10,K =>
   obtain rfl:=yb K;have g9:=(hR.c 9 (ye I 9 rfl)).1 _ rfl;have g7:=(hR.c 7 (ye I 7 rfl)).1 _ rfl;have kg:=hR.b xJ;have qY:=Q (zu (Z vj) kg);have jv:=Y (Z qY).box 10 rfl;have q10:=zc (Z qY).box 10 (by show 10<16;decide);have jL:=Y (Z qY).box 11 rfl;have q11:=zc (Z qY).box 11 (by show 11<16;decide);have jZ:=Y (Z qY).box 12 rfl;have q12:=zc (Z qY).box 12 (by show 12<16;decide);have pA:=Y (Z qY).box 13 rfl;have q13:=zc (Z qY).box 13 (by show 13<16;decide);have z14:=Y (Z qY).box 14 rfl;have q14:=zc (Z qY).box 14 (by show 14<16;decide);have z15:=Y (Z qY).box 15 rfl;have q15:=zc (Z qY).box 15 (by show 15<16;decide);clear I hR uR xn nw kg;rw[if_pos (by rfl)];unfold Oper.wp;go_simp;exact⟨f,by simp[g9,g7],rw_last (T:=fun V=>World.setCells V G 10 (yw id cs tkp cq cl cg)) (Z xu) xJ (fun j hj hx=>⟨fun u hu=>(by subst hj;cases hu),trivial⟩)⟩
  | i+11,K=>simp at K
theorem refuse_chk {G B r:Nat}{vq:Value}{g:Gr}(e:Ev)(w:World)(h:GS G B r w vq g)(hi:GI g)(he:okE e=true)(X:e.kind=2)(M:e.cmd.g.size<=maxLen):Calls Tryz.prog 61 #[xj G 0,evV e] w fun x w'=>Chk G B r vq g e w x w':=by
 have hsf:=sfl;have hG:=h.lt;have jA:=h.base;have uy:Hid (zx g e=if g.bg≠0 then 3 else if refR g.nx g.l e.cmd≠0/\refR g.nx g.l e.cmd=e.reason then 0 else 4):=by show _ = _;unfold zx;rw[if_neg (by rw[X];decide),if_pos X]
 have uV:Hid (takG g e=⟨g.nx,g.l,g.bg,g.cm,g.tk⟩):=by show _ = _;rw[takG,step2 X]
 have qf:Hid (∀k w',zx g e=k->k≠0->Kp G vq w w'->Chk G B r vq g e w (.panicked (brk k)) w'):=fun k w' D E h3=>chk_no D E h3;have uF:Hid (∀w' ux,zx g e=0->Kp G vq w w'->GS G B r w' ux (takG g e)->Chk G B r vq g e w (.returned (.tuple #[])) w'):=fun w' ux D E h3=>chk_ok D E h3;have pq:Hid (e.cmd.g.size<=maxLen):=M;have HI:=Q hi;generalize Chk G B r vq g e w=C at qf uF |-;generalize zx g e=ru at qf uF uy;generalize takG g e=g' at uV uF;obtain⟨xl,⟨ck,cs,ct,cl,cq,ci,cp,cg⟩,id,xh,qty,xi,xg⟩:=e;simp only at X M
 try simp only at uy uV
 unfold evV;simp only;obtain⟨xA,HX⟩:=lY w (yv xl ck cs ct cl cq ci cp cg id xh qty xi xg) 89;have HS:Hid ((w.alloc (J (yv xl ck cs ct cl cq ci cp cg id xh qty xi xg).toArray 89)).heap.size=w.heap.size+1):=by show _ = _;simp
 have HG:=Q (zu h xA);have HB:Hid (Kp G vq w (w.alloc (J (yv xl ck cs ct cl cq ci cp cg id xh qty xi xg).toArray 89))):=eL xA;clear h xA hi he X M;go_enter Tryz.func61,Tryz.ntmps61;refine lX fun ho HK=>?_;go_wp2_with fail;refine Z HK _ _ ?_;clear HK;generalize (w.alloc (J (yv xl ck cs ct cl cq ci cp cg id xh qty xi xg).toArray 89))=W1 at HS HX HG HB |-;have c3:=Y (Z HG).box 3 rfl
 by_cases h0:g.bg=0
 case neg =>
  have b0:(g.bg==0)=false:=by simpa using h0
  have HQ:=Q (Z uy);rw[if_pos h0] at HQ;clear h0;go_wp2_with fail;refine(ez 3 _).mono ?_;rintro e w6 ⟨rfl,rfl⟩;go_wp2_with fail;exact⟨rfl,Z qf 3 _ (Z HQ) (by decide) (Z HB)⟩
 have b0:(g.bg==0)=true:=by simpa using h0
 have jM:=Q ((Z HI).good (.inl (by omega)));have vn:=Q ((Z HI).start h0);have uo:=Q (Z uy);rw[if_neg (not_not_intro h0)] at uo;clear h0 uy;go_wp2_with fail;refine(eG 3 _).mono ?_;rintro e w2 ⟨rfl,aV⟩;rw[<- aV] at HG HX HB HS;clear aV c3 b0;have xF:=Q (Z HX);have ua:=Q (Z HG);have xq:=Q (Z HB);have hS2:w.heap.size<w2.heap.size:=by have:=Z HS;omega
 clear HX HG HB HS;have xW:Hid (Bx w2.drew w.heap.size (yv xl ck cs ct cl cq ci cp cg id xh qty xi xg)):=zm (Z xF);have qM:Hid (GS G B r w2.drew vq g):=zu (Z ua) ⟨rfl,rfl,rfl,Nat.le_refl _,fun _ _=>rfl⟩;have uk:Hid (Kp G vq w w2.drew):=ie (Z xq);have e1:=Y (Z xW) 1 rfl;have e2:=Y (Z xW) 2 rfl;have e3:=Y (Z xW) 3 rfl;have e4:=Y (Z xW) 4 rfl;have e5:=Y (Z xW) 5 rfl;have e6:=Y (Z xW) 6 rfl;have e7:=Y (Z xW) 7 rfl;have e8:=Y (Z xW) 8 rfl;have c1:=Y (Z qM).box 1 rfl;have c2:=Y (Z qM).box 2 rfl;have uU:=Q (zP (Z qM).row (yN (Z HI).len (by decide)));have jS:=Q (oRow_sl (Z qM).row);go_wp2_with fail;refine zw 6 (by kernel_rfl) (by kernel_rfl) ?_;simp only[yT,List.take_zero,yU,List.drop_zero]
 repeat still_step
 refine wpStill_nil ?_;clear c1 c2 e1 e2 e3 e4 e5 e6 e7 e8;go_wp2_with fail;refine(refusal_any g.nx vq g.l ⟨ck,cs,ct,cl,cq,ci,cp,cg⟩ _ (Z uU) (Z jS) (Z jM) (Z vn).1 (Z vn).2.1 (Z pq)).mono ?_;rintro e w5 ⟨rfl,xX⟩;have uK:=Q (zf (Z xW) xX hS2);have uQ:=Q (zu (Z qM) xX);have uT:=Q (eg (Z uk) xX);clear xX uU jS;generalize refR g.nx g.l ⟨ck,cs,ct,cl,cq,ci,cp,cg⟩=rr at uo |-;have vu:=Y (Z uK) 13 rfl
 by_cases ks:rr=0
 case pos =>
  have b0:(rr != 0)=false:=by simpa using ks
  have HQ:=Q (Z uo);rw[if_neg (by simp[ks])] at HQ;clear ks;go_wp2_with fail;refine(ez 4 _).mono ?_;rintro e w6 ⟨rfl,rfl⟩;go_wp2_with fail;exact⟨rfl,Z qf 4 _ (Z HQ) (by decide) (Z uT)⟩
 have b0:(rr != 0)=true:=by simpa using ks
 by_cases hre:rr=xg
 case neg =>
  have b1:(rr==xg)=false:=by simpa using hre
  have HQ:=Q (Z uo);rw[if_neg (by simp[hre])] at HQ;clear ks hre;go_wp2_with fail;refine(ez 4 _).mono ?_;rintro e w6 ⟨rfl,rfl⟩;go_wp2_with fail;exact⟨rfl,Z qf 4 _ (Z HQ) (by decide) (Z uT)⟩
 have b1:(rr==xg)=true:=by simpa using hre
 have HQ:=Q (Z uo);rw[if_pos ⟨ks,hre⟩] at HQ;clear ks hre;go_wp2_with fail;refine(eG 4 _).mono ?_;rintro e w6 ⟨rfl,rfl⟩;go_wp2_with fail;go_end0;refine Z uF _ vq (Z HQ) (Z uT) ?_;rw[Z uV];exact Z uQ
theorem trade_chk {G B r:Nat}{vq:Value}{g:Gr}(e:Ev)(w:World)(h:GS G B r w vq g)(hi:GI g)(he:okE e=true)(X:e.kind=3)(M:e.cmd.g.size<=maxLen):Calls Tryz.prog 62 #[xj G 0,evV e] w fun x w'=>Chk G B r vq g e w x w':=by
 have hsf:=sfl;have hG:=h.lt;have jA:=h.base;have uy:Hid (zx g e=if dueR g e≠0 then dueR g e else trR (dueG g) e):=by show _ = _;simp[zx,X]
 have uV:Hid (takG g e=⟨g.nx,hitI g.l e.other e.qty,g.bg,g.cm,{ g.tk with left:=g.tk.left-e.qty }⟩):=by show _ = _;rw[takG,step3 X]
 have qf:Hid (∀k w',zx g e=k->k≠0->Kp G vq w w'->Chk G B r vq g e w (.panicked (brk k)) w'):=fun k w' D E h3=>chk_no D E h3;have uF:Hid (∀w' ux,zx g e=0->Kp G vq w w'->GS G B r w' ux (takG g e)->Chk G B r vq g e w (.returned (.tuple #[])) w'):=fun w' ux D E h3=>chk_ok D E h3;have og:Hid (∀W,GS G B r W vq g->Calls Tryz.prog 100 #[xj G 0,evV e] W fun x w'=>x=outD (dueR g e) (dueG g)/\yn W w'):=fun W hW=>lq e W hW hi;have bQ:Hid (zx g e=0->g.bg=1/\g.tk.left≠0/\∃o,dN g.l (othS g.cm.s)=some o/\dY g.cm o=true/\e.id=g.tk.id/\e.other=o.id/\e.qty=min g.tk.left o.left/\e.price=o.ticks):=rule3 X;have HI:=Q hi;generalize Chk G B r vq g e w=C at qf uF |-;generalize zx g e=ru at qf uF uy bQ;generalize takG g e=g' at uV uF;generalize dueR g e=dr at og uy;generalize dueG g=d at og uy;obtain⟨xl,⟨ck,cs,ct,cl,cq,ci,cp,cg⟩,id,xh,qty,xi,xg⟩:=e;simp only at X M
 try simp only at uy uV
 unfold trR at uy;unfold evV at og;simp only at uy og bQ;unfold evV;simp only;obtain⟨xA,HX⟩:=lY w (yv xl ck cs ct cl cq ci cp cg id xh qty xi xg) 89;have HS:Hid ((w.alloc (J (yv xl ck cs ct cl cq ci cp cg id xh qty xi xg).toArray 89)).heap.size=w.heap.size+1):=by show _ = _;simp
 have HG:=Q (zu h xA);have HB:Hid (Kp G vq w (w.alloc (J (yv xl ck cs ct cl cq ci cp cg id xh qty xi xg).toArray 89))):=eL xA;clear h xA hi he X M;go_enter Tryz.func62,Tryz.ntmps62;refine lX fun ho HK=>?_;go_wp2_with fail;refine Z HK _ _ ?_;clear HK;generalize (w.alloc (J (yv xl ck cs ct cl cq ci cp cg id xh qty xi xg).toArray 89))=W1 at HS HX HG HB |-;obtain⟨e0,e1,e2,e3,e4,e5,e6,e7,e8,e9,uL,uG,vJ,vu⟩:=yy (Z HX);go_wp2_with fail;refine(Z og W1 (Z HG)).mono ?_;rintro x w2 ⟨hx,xE⟩
 by_cases hs:dr=0
 case neg =>
  rw[outD_no hs] at hx;subst hx;go_wp2_with fail;exact⟨rfl,Z qf _ _ (by rw[Z uy,if_pos hs]) hs (eg (Z HB) xE)⟩
 rw[outD_ok hs] at hx;subst hx;have HDZ:=Q hs;have uo:=Q (Z uy);rw[if_neg (not_not_intro hs)] at uo;clear hs uy;obtain⟨dk,di,dt,dq,dp⟩:=d;unfold duV;simp only at uo |-;have xN:=lT w2 (J #[H dk,H di,H dt,H dq,H dp] 123);have js:=xE.trans (xN.mono xE.size);have xF:=Q (zf (Z HX) js (by have:=Z HS;omega));have ua:=Q (zu (Z HG) js);have xq:=Q (eg (Z HB) js);have HV2:=Q (zj w2 [H dk,H di,H dt,H dq,H dp] 123);have jN:Hid (w.heap.size<w2.heap.size/\w2.heap.size<(w2.alloc (J #[H dk,H di,H dt,H dq,H dp] 123)).heap.size):=⟨by have:=Z HS;have:=xE.size;omega,by simp⟩;clear xE xN js e0 e1 e2 e3 e4 e5 e6 e7 e8 e9 uL uG vJ vu HX HG HB HS;have HE2:=Q (Z xF)
 by_cases je:dk=3
 case neg =>
  have b0:(dk==3)=false:=by simpa using je
  have HQ:=Q (Z uo);rw[if_pos (fun h=>je h.1)] at HQ;clear je;go_wp2_with fail;refine(ez 9 _).mono ?_;rintro e w6 ⟨rfl,rfl⟩;go_wp2_with fail;exact⟨rfl,Z qf 9 _ (Z HQ) (by decide) (Z xq)⟩
 have b0:(dk==3)=true:=by simpa using je
 have e9:=Y (Z HE2) 9 rfl
 by_cases uf:id=di
 case neg =>
  have b1:(id==di)=false:=by simpa using uf
  have HQ:=Q (Z uo);rw[if_pos (fun h=>uf h.2)] at HQ;clear je uf;go_wp2_with fail;refine(ez 9 _).mono ?_;rintro e w6 ⟨rfl,rfl⟩;go_wp2_with fail;exact⟨rfl,Z qf 9 _ (Z HQ) (by decide) (Z xq)⟩
 have b1:(id==di)=true:=by simpa using uf
 rw[if_neg (not_not_intro ⟨je,uf⟩)] at uo;clear je uf;go_wp2_with fail;refine(eG 9 _).mono ?_;rintro e hk ⟨rfl,hX⟩;rw[<- hX] at xF ua xq HV2 jN;clear hX b0 b1 e9 HE2;obtain ⟨v0,v1,v2,v3,v4⟩:=q0_5 (Z HV2) rfl;have uL:=Y (Z xF) 10 rfl;have uG:=Y (Z xF) 11 rfl;have vJ:=Y (Z xF) 12 rfl
 by_cases vv:xh=dt
 case neg =>
  have b10:(xh==dt)=false:=by simpa using vv
  have HQ:=Q (Z uo);rw[if_pos vv] at HQ;clear vv;go_wp2_with fail;refine(ez 10 _).mono ?_;rintro e w6 ⟨rfl,rfl⟩;go_wp2_with fail;exact⟨rfl,Z qf 10 _ (Z HQ) (by decide) (Z xq)⟩
 have b10:(xh==dt)=true:=by simpa using vv
 rw[if_neg (not_not_intro vv)] at uo;clear vv;go_wp2_with fail;refine(eG 10 _).mono ?_;rintro e X10 ⟨rfl,hX⟩;rw[hX];clear hX b10
 by_cases jz:xi=dp
 case neg =>
  have b11:(xi==dp)=false:=by simpa using jz
  have HQ:=Q (Z uo);rw[if_pos jz] at HQ;clear jz;go_wp2_with fail;refine(ez 11 _).mono ?_;rintro e w6 ⟨rfl,rfl⟩;go_wp2_with fail;exact⟨rfl,Z qf 11 _ (Z HQ) (by decide) (Z xq)⟩
 have b11:(xi==dp)=true:=by simpa using jz
 rw[if_neg (not_not_intro jz)] at uo;clear jz;go_wp2_with fail;refine(eG 11 _).mono ?_;rintro e X11 ⟨rfl,hX⟩;rw[hX];clear hX b11
 by_cases qv:qty=dq
 case neg =>
  have jp:(qty==dq)=false:=by simpa using qv
  have HQ:=Q (Z uo);rw[if_pos qv] at HQ;clear qv;go_wp2_with fail;refine(ez 12 _).mono ?_;rintro e w6 ⟨rfl,rfl⟩;go_wp2_with fail;exact⟨rfl,Z qf 12 _ (Z HQ) (by decide) (Z xq)⟩
 have jp:(qty==dq)=true:=by simpa using qv
 rw[if_neg (not_not_intro qv)] at uo;clear qv;go_wp2_with fail;refine(eG 12 _).mono ?_;rintro e X12 ⟨rfl,hX⟩;rw[hX];clear hX jp;obtain⟨D,E,o,hf,hm,-,hot,hq,-⟩:=Z bQ (Z uo);have qZ:=(Z HI).good (.inr E);obtain⟨vK,_⟩:=fY hf;obtain⟨i,hi⟩:=List.getElem?_of_mem vK;have uJ:plc g.l xh=i:=by rw[hot];exact eX qZ.rise hi
 have pt:=qZ.left o vK;have oS:=(Z HI).l0;have hl1:=(Z HI).l1;have cG:0<=qty:=by omega
 have aS:qty<=o.left:=by omega
 have hwr:IntKind.i64.wrap (g.tk.left-qty)=g.tk.left-qty:=by rw[IntKind.wrap_i64];omega
 have kb:=Q uJ;have HLI:=Q hi;have HOL:=Q pt;have HQ01:Hid (0<=qty/\qty<=o.left):=⟨cG,aS⟩;clear D E hf hm hq hot qZ vK hi uJ pt oS hl1 cG aS bQ v0 v1 v2 v3 v4 uL uG vJ;have xW:Hid (Bx hk.drew w.heap.size (yv xl ck cs ct cl cq ci cp cg id xh qty xi xg)):=zm (Z xF);have qM:Hid (GS G B r hk.drew vq g):=zu (Z ua) ⟨rfl,rfl,rfl,Nat.le_refl _,fun _ _=>rfl⟩;have uk:Hid (Kp G vq w hk.drew):=ie (Z xq);have uG:=Y (Z xW) 11 rfl;have c13:=Y (Z qM).box 13 rfl;have q13:=zc (Z qM).box 13 (by show 13<16;decide);go_wp2_with fail;refine zw 11 (by kernel_rfl) (by kernel_rfl) ?_;simp only[yT,List.take_zero,yU,List.drop_zero]
 repeat still_step
 refine wpStill_nil ?_;have uD:Hid (GS G B r (hk.drew.setCell (U G 13) (H (g.tk.left-qty))) vq { g with tk:={ g.tk with left:=g.tk.left-qty } }):=gs_set (Z qM) 13 _ (by decide) rfl rfl;have xZ:=Q (kp_set (Z uk) 13 (H (g.tk.left-qty)));have uz:Hid (Bx (hk.drew.setCell (U G 13) (H (g.tk.left-qty))) w.heap.size (yv xl ck cs ct cl cq ci cp cg id xh qty xi xg)):=ej (Z xW) (by omega);go_wp2_with fail;change Code.wp _ _ _ _ (hk.drew.setCell (U G 13) (H (g.tk.left-qty)));generalize hk.drew.setCell (U G 13) (H (g.tk.left-qty))=zb at uD xZ uz |-;clear uG c13 q13;have xw:Hid (Bx zb.drew w.heap.size (yv xl ck cs ct cl cq ci cp cg id xh qty xi xg)):=zm (Z uz);have uP:Hid (GS G B r zb.drew vq { g with tk:={ g.tk with left:=g.tk.left-qty } }):=zu (Z uD) ⟨rfl,rfl,rfl,Nat.le_refl _,fun _ _=>rfl⟩;have xK:Hid (Kp G vq w zb.drew):=ie (Z xZ);have uL:=Y (Z xw) 10 rfl;have uG:=Y (Z xw) 11 rfl;refine zw 7 (by kernel_rfl) (by kernel_rfl) ?_;simp only[yT,List.take_zero,yU,List.drop_zero]
 repeat still_step
 refine wpStill_nil ?_;go_wp2_with fail;refine(lh G 1 B g.nx xh qty vq g.l i o _ (Y (Z uP).box 1 rfl) (Y (Z uP).box 2 rfl) (zc (Z uP).box 2 (by show 2<16;decide)) (Z uP).row (Z uP).nq (Z uP).lt (Z uP).base (yN (Z HI).len (by decide)) (Z kb) (Z HLI) (Z HQ01).1 (Z HQ01).2 (Z HOL).2).mono ?_;rintro e w9 ⟨ux,rfl,dm,bD,dI⟩;have HG9:=Q (gs_took (Z uP) dm bD dI);have bH:=Q (kp_took (Z xK) dI);clear dm bD dI;go_wp2_with fail;go_end0;refine Z uF _ ux (Z uo) (Z bH) ?_;rw[Z uV];simp only[fi (Z kb) (Z HLI)];exact Z HG9
theorem expire_chk {G B r:Nat}{vq:Value}{g:Gr}(e:Ev)(w:World)(h:GS G B r w vq g)(hi:GI g)(he:okE e=true)(X:e.kind=9)(M:e.cmd.g.size<=maxLen):Calls Tryz.prog 68 #[xj G 0,evV e] w fun x w'=>Chk G B r vq g e w x w':=by
 have hsf:=sfl;have hG:=h.lt;have jA:=h.base;have uy:Hid (zx g e=if dueR g e≠0 then dueR g e else 0):=by show _ = _;simp[zx,X]
 have uV:Hid (takG g e=⟨g.nx,hitI g.l (dueG g).id (dueG g).qty,g.bg,g.cm,g.tk⟩):=by show _ = _;rw[takG,step9 X]
 have qf:Hid (∀k w',zx g e=k->k≠0->Kp G vq w w'->Chk G B r vq g e w (.panicked (brk k)) w'):=fun k w' D E h3=>chk_no D E h3;have uF:Hid (∀w' ux,zx g e=0->Kp G vq w w'->GS G B r w' ux (takG g e)->Chk G B r vq g e w (.returned (.tuple #[])) w'):=fun w' ux D E h3=>chk_ok D E h3;have og:Hid (∀W,GS G B r W vq g->Calls Tryz.prog 100 #[xj G 0,evV e] W fun x w'=>x=outD (dueR g e) (dueG g)/\yn W w'):=fun W hW=>lq e W hW hi;have HR9:Hid (zx g e=0->g.bg=8/\∃o,g.l.find? isDy=some o/\dueG g=⟨9,o.id,0,o.left,0⟩/\e.id=o.id/\e.qty=o.left):=rule9 X;have HI:=Q hi;generalize Chk G B r vq g e w=C at qf uF |-;generalize zx g e=ru at qf uF uy HR9;generalize takG g e=g' at uV uF;generalize dueR g e=dr at og uy;generalize dueG g=d at og uV HR9;obtain⟨xl,⟨ck,cs,ct,cl,cq,ci,cp,cg⟩,id,xh,qty,xi,xg⟩:=e;simp only at X M
 try simp only at uy uV
 unfold evV at og;simp only at og HR9;unfold evV;simp only;obtain⟨xA,HX⟩:=lY w (yv xl ck cs ct cl cq ci cp cg id xh qty xi xg) 89;have HS:Hid ((w.alloc (J (yv xl ck cs ct cl cq ci cp cg id xh qty xi xg).toArray 89)).heap.size=w.heap.size+1):=by show _ = _;simp
 have HG:=Q (zu h xA);have HB:Hid (Kp G vq w (w.alloc (J (yv xl ck cs ct cl cq ci cp cg id xh qty xi xg).toArray 89))):=eL xA;clear h xA hi he X M;go_enter Tryz.func68,Tryz.ntmps68;refine lX fun ho HK=>?_;go_wp2_with fail;refine Z HK _ _ ?_;clear HK;generalize (w.alloc (J (yv xl ck cs ct cl cq ci cp cg id xh qty xi xg).toArray 89))=W1 at HS HX HG HB |-;obtain⟨e0,e1,e2,e3,e4,e5,e6,e7,e8,e9,uL,uG,vJ,vu⟩:=yy (Z HX);go_wp2_with fail;refine(Z og W1 (Z HG)).mono ?_;rintro x w2 ⟨hx,xE⟩
 by_cases hs:dr=0
 case neg =>
  rw[outD_no hs] at hx;subst hx;go_wp2_with fail;exact⟨rfl,Z qf _ _ (by rw[Z uy,if_pos hs]) hs (eg (Z HB) xE)⟩
 rw[outD_ok hs] at hx;subst hx;have HDZ:=Q hs;have uo:=Q (Z uy);rw[if_neg (not_not_intro hs)] at uo;clear hs uy;obtain⟨dk,di,dt,dq,dp⟩:=d;unfold duV;simp only at uo |-;have xN:=lT w2 (J #[H dk,H di,H dt,H dq,H dp] 123);have js:=xE.trans (xN.mono xE.size);have xF:=Q (zf (Z HX) js (by have:=Z HS;omega));have ua:=Q (zu (Z HG) js);have xq:=Q (eg (Z HB) js);have HV2:=Q (zj w2 [H dk,H di,H dt,H dq,H dp] 123);have jN:Hid (w.heap.size<w2.heap.size/\w2.heap.size<(w2.alloc (J #[H dk,H di,H dt,H dq,H dp] 123)).heap.size):=⟨by have:=Z HS;have:=xE.size;omega,by simp⟩;clear xE xN js e0 e1 e2 e3 e4 e5 e6 e7 e8 e9 uL uG vJ vu HX HG HB HS;obtain⟨h8,o,hf,hd,-⟩:=Z HR9 (Z uo);simp only[Du.mk.injEq] at hd;obtain⟨rfl,rfl,rfl,rfl,rfl⟩:=hd;have qZ:=(Z HI).good (.inl (by omega));obtain⟨i,hi⟩:=find_at hf;have uJ:=eX qZ.rise hi;have pt:=qZ.left o (yO hi);have kb:=Q uJ;have HLI:=Q hi;have HOL:=Q pt;clear h8 hf qZ hi uJ pt HR9;go_wp2_with fail;generalize (w2.alloc (J #[H 9,H o.id,H 0,H o.left,H 0] 123))=hk at xF ua xq HV2 jN |-;have xW:Hid (Bx hk.drew w.heap.size (yv xl ck cs ct cl cq ci cp cg id xh qty xi xg)):=zm (Z xF);have qM:Hid (GS G B r hk.drew vq g):=zu (Z ua) ⟨rfl,rfl,rfl,Nat.le_refl _,fun _ _=>rfl⟩;have uk:Hid (Kp G vq w hk.drew):=ie (Z xq);have v1:hk.drew.cell? (U w2.heap.size 1)=some (H o.id):=Y (Z HV2) 1 rfl;have v3:hk.drew.cell? (U w2.heap.size 3)=some (H o.left):=Y (Z HV2) 3 rfl;refine zw 7 (by kernel_rfl) (by kernel_rfl) ?_;simp only[yT,List.take_zero,yU,List.drop_zero]
 repeat still_step
 refine wpStill_nil ?_;go_wp2_with fail;refine(lh G 1 B g.nx o.id o.left vq g.l i o _ (Y (Z qM).box 1 rfl) (Y (Z qM).box 2 rfl) (zc (Z qM).box 2 (by show 2<16;decide)) (Z qM).row (Z qM).nq (Z qM).lt (Z qM).base (yN (Z HI).len (by decide)) (Z kb) (Z HLI) (by have:=Z HOL;omega) (Int.le_refl _) (Z HOL).2).mono ?_;rintro e w9 ⟨ux,rfl,dm,bD,dI⟩;have HG9:=Q (gs_took (Z qM) dm bD dI);have bH:=Q (kp_took (Z uk) dI);clear dm bD dI;go_wp2_with fail;go_end0;refine Z uF _ ux (Z uo) (Z bH) ?_;rw[Z uV];simp only[fi (Z kb) (Z HLI)];exact Z HG9
end Go.Proofs.YtbghmldggahjiaaGreatDoor
