/-.-/
import Derived.Test.YtbghmldggahjiaaGreatDoorUj40
set_option linter.unusedVariables false
set_option maxHeartbeats 6400000
set_option maxRecDepth 100000
namespace Go.Proofs.YtbghmldggahjiaaGreatDoor
open Go.RowKit
theorem take_kp {O B:Nat}{vl vd va:Value}{g:Gr}{t:Od}{kd n0:Int}{dy l0:List Od}(e:Ev)(w:World)(h:MS O B w vl vd va g t kd n0 dy l0)(hi:GI g)(hm:MR g t kd dy)(he:okE e=true)(hr:zx g e=0):Calls Tryz.prog 85 #[xj O 0,evV e] w fun x w'=>TakK O B vl.ownBlock va n0 l0 g t kd dy e w x w':=by
 have X:=fx he;obtain⟨xl,⟨ck,cs,ct,cl,cq,ci,cp,cg⟩,id,xh,qty,xi,xg⟩:=e;simp only at X;rcases(by omega:xl=1\/xl=2\/xl=3\/xl=4\/xl=5\/xl=6\/xl=7\/xl=8\/xl=9) with rfl|rfl|rfl|rfl|rfl|rfl|rfl|rfl|rfl
 ·exact take_1 ck cs ct cl cq ci cp cg id xh qty xi xg w h hi hm he hr
 ·exact take_2 ck cs ct cl cq ci cp cg id xh qty xi xg w h hi hm he hr
 ·exact take_3 ck cs ct cl cq ci cp cg id xh qty xi xg w h hi hm he hr
 ·exact take_4 ck cs ct cl cq ci cp cg id xh qty xi xg w h hi hm he hr
 ·exact take_5 ck cs ct cl cq ci cp cg id xh qty xi xg w h hi hm he hr
 ·exact take_6 ck cs ct cl cq ci cp cg id xh qty xi xg w h hi hm he hr
 ·exact take_7 ck cs ct cl cq ci cp cg id xh qty xi xg w h hi hm he hr
 ·exact take_8 ck cs ct cl cq ci cp cg id xh qty xi xg w h hi hm he hr
 ·exact take_9 ck cs ct cl cq ci cp cg id xh qty xi xg w h hi hm he hr
structure RB (C:Nat->Value->Prop) (B0:World) (L:List Od) (mk:Value->List Value) (x:List Bool) (f:Nat->Value) (W:World):Prop where
 c:∀j,x[j]? = some true->C j (f j)
 bel:Below B0.heap.size B0 W
 m2:x[2]? = some true->x[5]? = some false->ORow W B0.heap.size (f 2) []
 m5:x[5]? = some true->ORow W B0.heap.size (f 5) L
 m7:x[7]? = some true->f 7 = .agg (mk (f 5)).toArray
 m8:x[8]? = some true->∃O,f 8 = .pointer (some ⟨O,0,none⟩)/\B0.heap.size<=O/\O<W.heap.size/\Bx W O (mk (f 5))/\∃cur,W.heap[O]? = some (.cells cur 143 (0,0))
 m9:x[9]? = some true->f 9=f 8
def RBA (yl:(Nat->Value)->Act)(C:Nat->Value->Prop)(B0:World)(L:List Od)(mk:Value->List Value)(x:List Bool)(hb:Act)(W:World):Prop:=∃f,hb=yl f/\RB C B0 L mk x f W
section
variable {C:Nat->Value->Prop} {B0 W W':World} {L:List Od} {mk:Value->List Value} {x:List Bool} {f:Nat->Value}
theorem rb_val (h:RB C B0 L mk x f W)(i:Nat)(v:Value)(hv:C i v)(hi:i≠2/\i≠5/\i≠7/\i≠8/\i≠9):RB C B0 L mk (x.set i true) (upd f i v) W:=by
 obtain⟨E,h5,h7,h8,h9⟩:=hi;refine⟨zD h.c hv,h.bel,?_,?_,?_,?_,?_⟩ <;> simp only[gq E,gq h5,gq h7,gq h8,gq h9,zn f v E.symm,zn f v h5.symm,zn f v h7.symm,zn f v h8.symm,zn f v h9.symm]
 ·exact h.m2
 ·exact h.m5
 ·exact h.m7
 ·exact h.m8
 ·exact h.m9
theorem rb_2 (h:RB C B0 L mk x f W)(n5:x[5]? = some false)(n8:x[8]? = some false)(n7:x[7]? = some false)(n9:x[9]? = some false)(hc:∀v,C 2 v):RB C B0 L mk (x.set 2 true) (upd f 2 (.slice (some (U W.heap.size 0)) 0 0)) (W.alloc (J #[] 98)):=
 ⟨zD h.c (hc _),h.bel.alloc h.bel.size _,fun _ _=>(by rw[zr];exact World.ownsRow_made W #[] 0 h.bel.size (by decide) rfl),fun e=>(by rw[gq (by decide),n5] at e;cases e),fun e=>(by rw[gq (by decide),n7] at e;cases e),fun e=>(by rw[gq (by decide),n8] at e;cases e),fun e=>(by rw[gq (by decide),n9] at e;cases e)⟩
theorem rb_5 (h:RB C B0 L mk x f W)(E:x[2]? = some true)(n5:x[5]? = some false)(n7:x[7]? = some false)(n8:x[8]? = some false)(n9:x[9]? = some false)(hc:∀v,C 5 v){v':Value}(K:ORow W' B0.heap.size v' L)(M:W.grownBy W' (f 2).ownBlock):RB C B0 L mk (x.set 5 true) (upd f 5 v') W':=
 ⟨zD h.c (hc _),h.bel.grown M h.bel.size (fun k X=>((h.m2 E n5).lt k X).1),fun _ e=>(by rw[gqs n5] at e;cases e),fun _=>(by rw[zr];exact K),fun e=>(by rw[gq (by decide),n7] at e;cases e),fun e=>(by rw[gq (by decide),n8] at e;cases e),fun e=>(by rw[gq (by decide),n9] at e;cases e)⟩
theorem rb_7 (h:RB C B0 L mk x f W)(n8:x[8]? = some false)(n9:x[9]? = some false)(hc:∀v,C 7 v):RB C B0 L mk (x.set 7 true) (upd f 7 (.agg (mk (f 5)).toArray)) W:=by
 refine⟨zD h.c (hc _),h.bel,?_,?_,fun _=>?_,fun e=>?_,fun e=>?_⟩
 ·rw[gq (by decide),gq (by decide),zn _ _ (by decide)];exact h.m2
 ·rw[gq (by decide),zn _ _ (by decide)];exact h.m5
 ·rw[zr,zn _ _ (by decide)]
 ·rw[gq (by decide),n8] at e;cases e
 ·rw[gq (by decide),n9] at e;cases e
theorem rb_8 (h:RB C B0 L mk x f W)(h5:x[5]? = some true)(h7:x[7]? = some true)(n9:x[9]? = some false)(hc:∀v,C 8 v):RB C B0 L mk (x.set 8 true) (upd f 8 (xj W.heap.size 0)) (W.alloc (J (mk (f 5)).toArray 143)):=by
 have A:=lT W (J (mk (f 5)).toArray 143);refine⟨zD h.c (hc _),h.bel.alloc h.bel.size _,fun _ e=>?_,fun _=>?_,fun _=>?_,fun _=>⟨W.heap.size,zr _ _ _,h.bel.size,by simp,?_,?_⟩,fun e=>?_⟩
 ·rw[gq (by decide),h5] at e;cases e
 ·rw[zn _ _ (by decide)];exact zK (h.m5 h5) A
 ·rw[zn _ _ (by decide),zn _ _ (by decide)];exact h.m7 h7
 ·rw[zn _ _ (by decide)];exact zj W (mk (f 5)) 143
 ·exact⟨_,heap_alloc_new W _⟩
 ·rw[gq (by decide),n9] at e;cases e
theorem rb_9 (h:RB C B0 L mk x f W)(hc:∀v,C 9 v):RB C B0 L mk (x.set 9 true) (upd f 9 (f 8)) W:=by
 refine⟨zD h.c (hc _),h.bel,?_,?_,?_,?_,fun _=>?_⟩
 ·rw[gq (by decide),gq (by decide),zn _ _ (by decide)];exact h.m2
 ·rw[gq (by decide),zn _ _ (by decide)];exact h.m5
 ·rw[gq (by decide),zn _ _ (by decide),zn _ _ (by decide)];exact h.m7
 ·rw[gq (by decide),zn _ _ (by decide),zn _ _ (by decide)];exact h.m8
 ·rw[zr,zn _ _ (by decide)]
end
theorem l05Begin_any (next:Int)(vb:Value)(l:List Od)(w:World)(hr:RdR Od.vs 6 w vb l)(hs:SlOk vb)(hn:l.length<=1000) :
  Calls Tryz.prog 81 #[.agg #[H next,vb]] w fun x w'=>∃O vl,x = .returned (xj O 0)/\MS O w.heap.size w' vl (.slice none 0 0) vb (gr0 next l) zOd 0 next [] l/\yn w w':=by
 obtain⟨i0,vA,uE,uw,uC⟩:=info_parts Tryz.infoOrder;obtain⟨a,cap,rfl,xD,hc⟩:=id hr
 have HNA:Hid (l ≠ []->∀b off n c,Value.slice a l.length cap = .slice (some (U b off)) n c->b<w.heap.size):=fun xy b off n c e=>by
  obtain⟨b2,o2,e2,A,-⟩:=hc xy;simp only[Value.slice.injEq] at e;rw[e.1] at e2;simp only[Option.some.injEq,Addr.mk.injEq,and_true] at e2;rw[e2.1];exact A
 obtain⟨xA,HX⟩:=lY w [H next,.slice a l.length cap] 41;have HB:=Q xA;have uU:=Q (zq hr xA ya);have jS:=Q hs;clear hr hs hc xA;go_enter Tryz.func81,Tryz.ntmps81;refine lX fun ho HK=>?_;go_wp2_with fail;refine Z HK _ _ ?_;clear HK;generalize (w.alloc (J #[H next,.slice a l.length cap] 41))=hk at HB HX uU |-;have hSX:w.heap.size<hk.heap.size:=yK _ _ (Y (Z HX) 0 rfl);go_wp2_with fail;refine zL (RBA (fun f=>{ tmps:=#[.agg #[H next,.slice a l.length cap],xj w.heap.size 0,f 9,f 0,f 1,f 2,f 3,f 4,f 5,f 6,f 7,f 8],defers:=[] }) (fun j v=>∀u,([some (xj w.heap.size 0),some (H next),none,some (xj w.heap.size 1),some (.slice a l.length cap),none,some (.agg #[H next,.slice a l.length cap]),none,none,none]:List (Option Value))[j]? = some (some u)->v=u) hk l (fun v=>msV v (.slice none 0 0) (.slice a l.length cap) (gr0 next l) zOd 0 next)) (by kernel_rfl) ?_ ?_ ?_
 ·have vZ:∀j,(List.replicate 10 false)[j]? = some true->False:=fun j hj=>by rw[yI] at hj;split at hj <;> simp at hj
  exact⟨fun j=>if j=9 then .pointer none else F,rfl,⟨fun j hj=>(vZ j hj).elim,⟨rfl,rfl,rfl,Nat.le_refl _,fun _ _=>rfl⟩,fun h=>(vZ _ h).elim,fun h=>(vZ _ h).elim,fun h=>(vZ _ h).elim,fun h=>(vZ _ h).elim,fun h=>(vZ _ h).elim⟩⟩
 ·rintro x hb zb ⟨f,rfl,hR⟩ hx xU;have xv:=eJ xU hx (acyc _ (by kernel_rfl));obtain⟨O,e8,hO,hOY,jm,hty⟩:=hR.m8 (xv 8 (by simp));have e9:=(hR.m9 (xv 9 (by simp))).trans e8;have HMS:Hid (MS O w.heap.size zb (f 5) (.slice none 0 0) (.slice a l.length cap) (gr0 next l) zOd 0 next [] l):=⟨jm,ex (hR.m5 (xv 5 (by simp))) (Z HB).size,⟨none,0,rfl,by decide,fun h=>absurd rfl h⟩,zq (Z uU) hR.bel ya,Z jS,hty,yN (Z HB).size hO,fun _=>⟨rfl,rfl,rfl⟩,fun h=>absurd rfl h,Z HNA,fun h=>absurd rfl h⟩;have HBY:=Q ((Z HB).trans (hR.bel.mono (Z HB).size));dsimp only;rw[e9];clear hR xv xU hx e8 e9 jm hty hO hOY;generalize f 0=v0,f 1=v1,f 2=v2,f 3=v3,f 4=v4;generalize f 5=v5 at *;generalize f 6=v6,f 7=v7,f 8=v8;go_wp2_with fail;go_ret;exact⟨O,v5,rfl,Z HMS,Z HBY⟩
 ·rintro x hb V i op ⟨f,rfl,hR⟩ xm hx K xJ I;have xu:=Q hR;have kg:=hR.bel
  match i,K with
  | 0,K =>
   obtain rfl:=yb K;clear I hR xm;rw[if_pos (by rfl)];unfold Oper.wp;go_simp;exact⟨upd f 0 (xj w.heap.size 0),by simp[upd],rb_val (Z xu) 0 _ (yi rfl) (by decide)⟩
  | 1,K =>
   obtain rfl:=yb K;have g0:=hR.c 0 (ye I 0 rfl) _ rfl;have z0:=Y (zf (Z HX) kg hSX) 0 rfl;clear I hR xm;rw[if_pos (by rfl)];unfold Oper.wp;go_simp;exact⟨upd f 1 (H next),by simp[upd,g0],rb_val (Z xu) 1 _ (yi rfl) (by decide)⟩
  | 2,K =>
   obtain rfl:=yb K;have n5:x[5]? = some false:=dV xm 10 2 5 (by kernel_rfl) hx (by simp) xJ;have n7:x[7]? = some false:=dV xm 10 2 7 (by kernel_rfl) hx (by simp) xJ;have n8:x[8]? = some false:=dV xm 10 2 8 (by kernel_rfl) hx (by simp) xJ;have n9:x[9]? = some false:=dV xm 10 2 9 (by kernel_rfl) hx (by simp) xJ;clear I hR xm;rw[if_pos (by rfl)];unfold Oper.wp;go_simp;exact⟨upd f 2 (.slice (some (U V.heap.size 0)) 0 0),by simp[upd],rb_2 (Z xu) n5 n8 n7 n9 (fun v u hu=>by cases hu)⟩
  | 3,K =>
   obtain rfl:=yb K;clear I hR xm;rw[if_pos (by rfl)];unfold Oper.wp;go_simp;exact⟨upd f 3 (xj w.heap.size 1),by simp[upd],rb_val (Z xu) 3 _ (yi rfl) (by decide)⟩
  | 4,K =>
   obtain rfl:=yb K;have g3:=hR.c 3 (ye I 3 rfl) _ rfl;have z1:=Y (zf (Z HX) kg hSX) 1 rfl;clear I hR xm;rw[if_pos (by rfl)];unfold Oper.wp;go_simp;exact⟨upd f 4 (.slice a l.length cap),by simp[upd,g3],rb_val (Z xu) 4 _ (yi rfl) (by decide)⟩
  | 5,K =>
   obtain rfl:=yb K;have n7:x[7]? = some false:=dV xm 10 5 7 (by kernel_rfl) hx (by simp) xJ;have n8:x[8]? = some false:=dV xm 10 5 8 (by kernel_rfl) hx (by simp) xJ;have n9:x[9]? = some false:=dV xm 10 5 9 (by kernel_rfl) hx (by simp) xJ;have k2:x[2]? = some true:=I ⟨2,.data⟩ (by simp) rfl;have g4:=hR.c 4 (ye I 4 rfl) _ rfl;have HO0:=Q (hR.m2 k2 xJ)
   have HRDV:Hid (∀ad,a=some ad->∀j u,(l.flatMap Od.vs)[j]? = some u->V.cell? (ad.add j)=some u):=fun ad had=>by
    have h:=zq (Z uU) kg ya;rw[had] at h;exact rd_src h
   clear I hR xm;rw[if_pos (by rfl)];rcases Z jS with h|⟨ad,nn,cc,h⟩
   ·simp only[Value.slice.injEq] at h;have hL:l = []:=List.length_eq_zero_iff.1 h.2.1;refine lB (.tmp 5) (.tmp 7) 39 rfl hk.heap.size 98 i0 6 Tryz.underlying39 vA (f 2) 0 [] rfl (Z HO0) (by show f 4 = _;rw[g4,h.1,h.2.1,h.2.2]) ?_;exact⟨upd f 5 (f 2),rfl,rb_5 (Z xu) k2 xJ n7 n8 n9 (fun v u hu=>by cases hu) (by rw[hL];exact Z HO0) (yR _ _)⟩
   ·simp only[Value.slice.injEq] at h;refine wp_append_own V (.tmp 5) (.tmp 7) 39 rfl hk.heap.size 98 i0 _ 6 56 Tryz.underlying39 vA uE uw uC rfl (by decide) (f 2) 0 [] rfl (Z HO0) ad l.length cap (l.flatMap Od.vs) (by show f 4 = _;rw[g4,h.1]) (by rw[ef Od.len]) (Z HRDV ad h.1) (fQ l) (by unfold maxLen;omega) (by omega) kg.size ?_;intro v' w' xL vY _;refine⟨upd f 5 v',rfl,rb_5 (Z xu) k2 xJ n7 n8 n9 (fun v u hu=>by cases hu) ?_ vY⟩;show w'.ownsRow _ _ _ _ l.length _;simpa using xL
  | 6,K =>
   obtain rfl:=yb K;have z0:=Y (zf (Z HX) kg hSX) 0 rfl;have z1:=Y (zf (Z HX) kg hSX) 1 rfl;clear I hR xm;rw[if_pos (by rfl)];unfold Oper.wp;go_simp;exact⟨upd f 6 (.agg #[H next,.slice a l.length cap]),by simp[upd],rb_val (Z xu) 6 _ (yi rfl) (by decide)⟩
  | 7,K =>
   obtain rfl:=yb K;have g1:=hR.c 1 (ye I 1 rfl) _ rfl;have g6:=hR.c 6 (ye I 6 rfl) _ rfl;have n8:x[8]? = some false:=dV xm 10 7 8 (by kernel_rfl) hx (by simp) xJ;have n9:x[9]? = some false:=dV xm 10 7 9 (by kernel_rfl) hx (by simp) xJ;obtain⟨ga,gc,g5⟩:=gA (zP (hR.m5 (ye I 5 rfl)) (by omega));have oF:=Q (rb_7 (Z xu) n8 n9 (fun v u hu=>by cases hu));rw[g5] at oF;unfold msV at oF;clear I hR xm;rw[if_pos (by rfl)];unfold Oper.wp;go_simp;exact⟨_,by simp[upd,g1,g5,g6];exact⟨rfl,rfl,rfl,rfl,rfl,rfl,rfl,rfl⟩,Z oF⟩
  | 8,K =>
   obtain rfl:=yb K;have n9:x[9]? = some false:=dV xm 10 8 9 (by kernel_rfl) hx (by simp) xJ;have k7:x[7]? = some true:=I ⟨7,.data⟩ (by simp) rfl;have k5:x[5]? = some true:=yf xm 7 rfl k7 5 rfl;have g7:=hR.m7 k7;have oF:=Q (rb_8 (Z xu) k5 k7 n9 (fun v u hu=>by cases hu));simp only[msV,gr0] at g7 oF;clear I hR xm;rw[if_pos (by rfl)];unfold Oper.wp;go_simp;exact⟨upd f 8 (xj V.heap.size 0),by simp[upd,g7],Z oF⟩
  | 9,K =>
   obtain rfl:=yb K;clear I hR xm;rw[if_pos (by rfl)];unfold Oper.wp;go_simp;exact⟨upd f 9 (f 8),by simp[upd],rb_9 (Z xu) (fun v u hu=>by cases hu)⟩
  | i+10,K=>simp at K
theorem run_fold:∀(cs:List Cm) (s:RunSt),s.t=s.g.foldl wgT tot0->(cs.foldl rstep s).t=(cs.foldl rstep s).g.foldl wgT tot0
 | [],s,h=>h
 | c::cs,s,h=>by
  rw[List.foldl_cons];refine run_fold cs _ ?_;show wgT s.t (stE s.n s.l c)=(s.g ++ [stE s.n s.l c]).foldl wgT tot0;rw[List.foldl_append,<- h];rfl
structure Al (t u:Tot):Prop where
 ac:t.ac=u.ac
 rf:t.rf=u.rf
 tr:t.tr=u.tr
 vo:t.vo=u.vo
 no:t.no=u.no
theorem al_cnt {t u:Tot}(e:Ev)(h:Al t u):Al (cntE t e) (cntM u e):=by
 obtain⟨D,E,h3,h4,h5⟩:=h;unfold cntE cntM;split
 ·exact⟨by simp only[D],E,h3,h4,h5⟩
 ·split
  ·exact⟨D,by simp only[E],h3,h4,h5⟩
  ·split
   ·exact⟨D,E,by simp only[h3],by simp only[h4],by simp only[h5]⟩
   ·split
    ·exact⟨D,E,h3,h4,h5⟩
    ·exact⟨D,E,h3,h4,h5⟩
theorem al_fold:∀(es:List Ev) {t u:Tot},Al t u->Al (es.foldl cntE t) (es.foldl cntM u)
 | [],_,_,h=>h
 | e::es,_,_,h=>al_fold es (al_cnt e h)
theorem cntE_rest (t:Tot)(e:Ev):(cntE t e).gr=t.gr/\(cntE t e).li=t.li/\(cntE t e).le=t.le:=by
 unfold cntE;split
 ·exact⟨rfl,rfl,rfl⟩
 ·split
  ·exact⟨rfl,rfl,rfl⟩
  ·split <;> exact⟨rfl,rfl,rfl⟩
theorem cntE_fold:∀(es:List Ev) (t:Tot),(es.foldl cntE t).gr=t.gr/\(es.foldl cntE t).li=t.li/\(es.foldl cntE t).le=t.le
 | [],_=>⟨rfl,rfl,rfl⟩
 | e::es,t=>by
  have D:=cntE_fold es (cntE t e);have E:=cntE_rest t e;exact⟨D.1.trans E.1,D.2.1.trans E.2.1,D.2.2.trans E.2.2⟩
theorem cntM_gr:∀(es:List Ev) (t:Tot),(es.foldl cntM t).gr=t.gr
 | [],_=>rfl
 | e::es,t=>by
  refine(cntM_gr es (cntM t e)).trans ?_;unfold cntM;split
  ·rfl
  ·split
   ·rfl
   ·split
    ·rfl
    ·split <;> rfl
theorem wrap_few {x:Int}(h0:0<=x)(D:x<=1000000):wrap64 x=x:=by unfold wrap64;omega
theorem wg_al:∀(gl:List (List Ev)) {t u:Tot},Al t u->0<=t.gr->t.gr+gl.length<=1000000->Al (gl.foldl wgT t) (totG u gl)/\(gl.foldl wgT t).gr=t.gr+gl.length/\(gl.foldl wgT t).li=t.li/\(gl.foldl wgT t).le=t.le
 | [],t,u,h,_,_=>⟨h,by simp,rfl,rfl⟩
 | es::gl,t,u,h,h0,D=>by
  rw[List.length_cons] at D;have hf:=cntE_fold es { t with gr:=wrap64 (t.gr+1) };have hw:wrap64 (t.gr+1)=t.gr+1:=wrap_few (by omega) (by omega);have M:(wgT t es).gr=t.gr+1:=hf.1.trans hw;have ha:Al (wgT t es) (es.foldl cntM u):=al_fold es ⟨h.ac,h.rf,h.tr,h.vo,h.no⟩;have ih:=wg_al gl ha (by omega) (by omega);refine⟨ih.1,?_,ih.2.2.1.trans hf.2.1,ih.2.2.2.trans hf.2.2⟩;have:=ih.2.1;rw[List.foldl_cons,this,List.length_cons];omega
theorem wb_fold:∀(l:List Od) (t:Tot) (n:Int),0<=t.li->t.li+l.length<=1000000->l.foldl cntO { t with le:=n } = { t with li:=t.li+l.length,le:=l.foldl (fun n o=>wrap64 (n+o.left)) n }
 | [],t,n,_,_=>by simp
 | o::l,t,n,h0,D=>by
  rw[List.length_cons] at D;have hw:wrap64 (t.li+1)=t.li+1:=wrap_few (by omega) (by omega);rw[List.foldl_cons,List.foldl_cons];have:=wb_fold l { t with li:=t.li+1 } (wrap64 (n+o.left)) (by show 0<=t.li+1;omega) (by show t.li+1 + _ <= _;omega);simp only at this;unfold cntO;simp only[hw];refine this.trans ?_;congr 1;rw[List.length_cons];omega
def mjV (v:Value)(k s ru pl n:Int)(vq:Value)(t:Tot)(vt:Value)(po pv:Int):List Value:=[v,H k,H s,H ru,H pl,H n,vq,H t.gr,H t.ac,H t.rf,H t.tr,H t.vo,H t.no,H t.li,H t.le,vt,H po,H pv]
structure MB (w:World) (hg:Nat) (vs:List Value) (W:World):Prop where
 box:Bx W hg vs
 typ:∃cur,W.heap[hg]? = some (.cells cur 51 (0,0))
 bel:Below w.heap.size w W
 hM:w.heap.size<=hg
theorem MB.lt {w:World}{hg:Nat}{vs:List Value}{W:World}(h:MB w hg vs W):hg<W.heap.size:=by
 obtain⟨xr,hc⟩:=h.typ;exact(yY.1 hc).1
theorem iE {w:World}{hg:Nat}{vs:List Value}{W W':World}(h:MB w hg vs W)(A:yn W W'):MB w hg vs W':=by
 obtain⟨xr,hc⟩:=h.typ;exact⟨zf h.box A h.lt,⟨xr,(A.block hg h.lt).trans hc⟩,h.bel.trans (A.mono h.bel.size),h.hM⟩
theorem mb_blk {w:World}{hg:Nat}{vs:List Value}{W W':World}(h:MB w hg vs W)(A:W'.heap[hg]? = W.heap[hg]?)(hl:yn w W'):MB w hg vs W':=by
 obtain⟨xr,hc⟩:=h.typ;exact⟨zQ h.box A,⟨xr,A.trans hc⟩,hl,h.hM⟩
theorem ig {w:World}{hg:Nat}{vs:List Value}{W:World}(h:MB w hg vs W)(o:Nat)(us:List Value)(hl:o+us.length<=vs.length):MB w hg (vs.take o++us++vs.drop (o+us.length)) (W.setCells hg o us):=
 ⟨bx_setAt us o W vs h.box hl,gZ us o W h.typ,zg hg h.hM us o W h.bel,h.hM⟩
structure MJ (w:World) (hg:Nat) (v:Value) (k s ru pl:Int) (cs:List Cm) (T:Tot) (vq vt:Value) (W:World):Prop where
 mb:MB w hg (mjV v k s ru pl (runS cs).n vq T vt (pkO cs) (pkL cs)) W
 row:ORow W w.heap.size vq (runS cs).l
 told:W.ownsRow w.heap.size 57 8 vt cs.length (cs.flatMap Cm.vs)
 al:Al (runS cs).t T
section
variable {w:World} {hg:Nat} {v:Value} {k s ru pl:Int} {cs:List Cm} {T:Tot} {vq vt:Value} {W W':World}
theorem gL (h:MJ w hg v k s ru pl cs T vq vt W)(A:yn W W'):MJ w hg v k s ru pl cs T vq vt W':=
 ⟨iE h.mb A,zK h.row A,fP h.told A,h.al⟩
theorem ij {k' s' ru' pl':Int}{T':Tot}(h:MJ w hg v k s ru pl cs T vq vt W)(o:Nat)(us:List Value)(hl:o+us.length<=18)(he:mjV v k' s' ru' pl' (runS cs).n vq T' vt (pkO cs) (pkL cs)=(mjV v k s ru pl (runS cs).n vq T vt (pkO cs) (pkL cs)).take o++us++(mjV v k s ru pl (runS cs).n vq T vt (pkO cs) (pkL cs)).drop (o+us.length))(ha:Al (runS cs).t T'):MJ w hg v k' s' ru' pl' cs T' vq vt (W.setCells hg o us):=
 ⟨by rw[he];exact ig h.mb o us hl,eP (zy h.row h.mb.typ (by decide)) us o W h.row,eP (zy h.told h.mb.typ (by decide)) us o W h.told,ha⟩
end
def MF (w:World)(hg:Nat)(v:Value)(x:Nat × Int)(W:World):Prop:=∃k s n vq T vt po pv,MB w hg (mjV v k s x.2 x.1 n vq T vt po pv) W
theorem stepM_bg {g:Gr}{e:Ev}(X:1<=e.kind/\e.kind<=9):(dK g e).bg≠0:=by
 rw[step_bg];show begG g e≠0;unfold begG;split <;> omega
theorem grpJ_ne {p:List Int}{cs:List Cm}{q:Nat}{r:Int}(h:grpJ p cs = .inl (q,r)):r≠0:=by
 unfold grpJ at h;cases he:evsK p 0 (gr0 (runS cs).n (runS cs).l) [] with
 | bad k x =>
  rw[he] at h;cases h
  have:∀(f k:Nat) (g:Gr) (es:List Ev) (a:Nat) (r:Int),evsJ p f k g es = .bad a r->r≠0:=by
   intro f
   induction f with
   | zero=>intro k g es a r h;rw[evsJ] at h;cases h
   | succ f ih =>
    intro k g es a r h;rw[evsJ] at h;split at h
    ·cases h
    cases hv:evA p k with
    | none=>rw[hv] at h;cases h;decide
    | some x =>
     obtain⟨e,n⟩:=x;rw[hv] at h;simp only at h;split at h
     ·exact ih _ _ _ _ _ h
     ·rename_i xy;cases h;exact xy
  exact this _ _ _ _ _ _ he
 | ok g es =>
  rw[he] at h;simp only at h;split at h
  ·cases h
  ·cases h;decide
theorem take_split {l:List Int}{n t:Nat}(h:n<=t)(ht:t<=l.length):l.take t=l.take n++(l.drop n).take (t-n):=by
 rw[show t=n+(t-n) by omega,List.take_add,Nat.add_sub_cancel_left]
theorem evA_pay {l:List Int}{n t:Nat}(h:n<=t)(ht:t<=l.length)(k:Nat):evA (l.take t) (n+k)=(evA ((l.drop n).take (t-n)) k).map fun x=>(x.1,n+x.2):=by
 have:=evA_app (l.take n) ((l.drop n).take (t-n)) k;rw[<- take_split h ht,List.length_take,Nat.min_eq_left (by omega)] at this;exact this
def tolds (es:List Ev):List Cm:=(es.head?.map zV).toList
theorem cntM_gr1 (t:Tot)(e:Ev):(cntM t e).gr=t.gr:=cntM_gr [e] t
theorem ms_keep {O B hg:Nat}{W W':World}{vl vd va vt:Value}{g:Gr}{t:Od}{kd n0:Int}{dy l0:List Od}(h:MS O B W vl vd va g t kd n0 dy l0)(hM:∃xr,W.heap[hg]? = some (.cells xr 51 (0,0))){C n:Nat}{xs:List Value}(ht:W.ownsRow C 57 8 vt n xs){h1 m:Nat}{ys:List Value}(hv:W.ownsRow h1 98 6 va m ys)(X:Kp hg vt W W'):MS O B W' vl vd va g t kd n0 dy l0:=by
 obtain⟨cm,hcm⟩:=hM;obtain⟨co,hco⟩:=h.typ
 have oth:∀ {b:Nat} {T:TypeId},(∃xr,W.heap[b]? = some (.cells xr T (0,0)))->T ≠ 51->T ≠ 57->W'.heap[b]? = W.heap[b]?:=fun {b T} A D E=>by
  obtain⟨cb,hcb⟩:=A;refine X.block b (yY.1 hcb).1 (fun e=>?_) (zy ht ⟨cb,hcb⟩ E);subst e;rw[hcm] at hcb;simp only[Option.some.injEq,Obj.cells.injEq] at hcb;exact D hcb.2.1.symm
 have rdk:∀ {u:Value} {l:List Od},RdR Od.vs 6 W u l->(l ≠ []->∀b off n c,u = .slice (some (U b off)) n c->DyT W b)->RdR Od.vs 6 W' u l:=fun {u l} hr hd=>by
  obtain⟨a,c,rfl,hl,hc⟩:=hr;refine⟨a,c,rfl,hl,fun xy=>?_⟩;obtain⟨b,off,rfl,A,xm⟩:=hc xy;have hbb:=oth (hd xy b off _ _ rfl) (by decide) (by decide);refine⟨b,off,rfl,yJ A X.size,fun j c hj i u hi=>?_⟩;rw[yQ (a:=(U b (off+j*6+i))) hbb];exact xm j c hj i u hi
 have hO:=oth h.typ (by decide) (by decide)
 have xS:ORow W' B vl g.l:=by
  rcases h.row.2 with⟨rfl,e0⟩|⟨q,cap,xr,rfl,A,hq,rest⟩
  ·exact⟨h.row.1,.inl ⟨rfl,e0⟩⟩
  ·exact⟨h.row.1,.inr ⟨q,cap,xr,rfl,A,(oth ⟨xr,hq⟩ (by decide) (by decide)).trans hq,rest⟩⟩
 refine⟨zQ h.box hO,xS,rdk h.days h.dyt,rdk h.ahd (fun xy b off n c e=>?_),h.sla,⟨co,hO.trans hco⟩,h.hO,h.eqd,h.ndc,h.na,fun hd b off n c e=>dyT_blk (h.dyt hd b off n c e) (oth (h.dyt hd b off n c e) (by decide) (by decide))⟩;rcases hv.2 with⟨D,_⟩|⟨q,cap2,cur2,D,_,hq2,_⟩
 ·rw[D] at e;cases e
 ·rw[D] at e;simp only[Value.slice.injEq,Option.some.injEq,Addr.mk.injEq,and_true] at e;obtain⟨⟨rfl,-⟩,-⟩:=e;exact⟨cur2,hq2⟩
end Go.Proofs.YtbghmldggahjiaaGreatDoor
