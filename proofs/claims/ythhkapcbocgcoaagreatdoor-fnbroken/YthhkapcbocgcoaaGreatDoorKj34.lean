/-.-/
import Derived.Test.YthhkapcbocgcoaaGreatDoorKj27
import Derived.Test.YthhkapcbocgcoaaGreatDoorKj30
import Derived.Test.YthhkapcbocgcoaaGreatDoorKj32
import Derived.Test.YthhkapcbocgcoaaGreatDoorKj33
set_option linter.unusedVariables false
set_option maxHeartbeats 6400000
set_option maxRecDepth 100000
namespace Go.Proofs.YthhkapcbocgcoaaGreatDoor
open Go.RowKit
theorem take_kp {cl B:Nat}{vl vd va:Value}{g:Gr}{t:Od}{kd n0:Int}{dy l0:List Od}(e:Ev)(w:World)(h:MS cl B w vl vd va g t kd n0 dy l0)(hi:GI g)(hm:MR g t kd dy)(he:okE e=true)(hr:zE g e=0):Calls Tryz.prog 60 #[I cl 0,evV e] w fun x w'=>TakK cl B vl.ownBlock va n0 l0 g t kd dy e w x w':=by
 have hk:=ik he;obtain⟨xm,⟨ck,F,ct,O,cq,ci,cp,cg⟩,id,xj,qty,xk,xh⟩:=e;simp only at hk;rcases(by omega:xm=1\/xm=2\/xm=3\/xm=4\/xm=5\/xm=6\/xm=7\/xm=8\/xm=9) with rfl|rfl|rfl|rfl|rfl|rfl|rfl|rfl|rfl
 ·exact take_1 ck F ct O cq ci cp cg id xj qty xk xh w h hi hm he hr
 ·exact take_2 ck F ct O cq ci cp cg id xj qty xk xh w h hi hm he hr
 ·exact take_3 ck F ct O cq ci cp cg id xj qty xk xh w h hi hm he hr
 ·exact take_4 ck F ct O cq ci cp cg id xj qty xk xh w h hi hm he hr
 ·exact take_5 ck F ct O cq ci cp cg id xj qty xk xh w h hi hm he hr
 ·exact take_6 ck F ct O cq ci cp cg id xj qty xk xh w h hi hm he hr
 ·exact take_7 ck F ct O cq ci cp cg id xj qty xk xh w h hi hm he hr
 ·exact take_8 ck F ct O cq ci cp cg id xj qty xk xh w h hi hm he hr
 ·exact take_9 ck F ct O cq ci cp cg id xj qty xk xh w h hi hm he hr
theorem take_any {cl B:Nat}{vl vd va:Value}{g:Gr}{t:Od}{kd n0:Int}{dy l0:List Od}(e:Ev)(w:World)(h:MS cl B w vl vd va g t kd n0 dy l0)(hi:GI g)(hm:MR g t kd dy)(he:okE e=true)(hr:zE g e=0):Calls Tryz.prog 60 #[I cl 0,evV e] w fun x w'=>TakE cl B va n0 l0 g t kd dy e w x w':=
 (take_kp e w h hi hm he hr).mono fun x w' ⟨D,Y,h3⟩=>⟨D,ko_below Y h,h3⟩
structure RB (C:Nat->Value->Prop) (B0:World) (hR:List Od) (mk:Value->List Value) (x:List Bool) (f:Nat->Value) (W:World):Prop where
 c:∀j,x[j]? = some true->C j (f j)
 bel:Below B0.heap.size B0 W
 m2:x[2]? = some true->x[5]? = some false->ORow W B0.heap.size (f 2) []
 m5:x[5]? = some true->ORow W B0.heap.size (f 5) hR
 m7:x[7]? = some true->f 7 = .agg (mk (f 5)).toArray
 m8:x[8]? = some true->∃cl,f 8 = .pointer (some ⟨cl,0,none⟩)/\B0.heap.size<=cl/\cl<W.heap.size/\Bx W cl (mk (f 5))/\∃cur,W.heap[cl]? = some (.cells cur 74 (0,0))
 m9:x[9]? = some true->f 9=f 8
def RBA (cs:(Nat->Value)->Act)(C:Nat->Value->Prop)(B0:World)(hR:List Od)(mk:Value->List Value)(x:List Bool)(zb:Act)(W:World):Prop:=∃f,zb=cs f/\RB C B0 hR mk x f W
section
variable {C:Nat->Value->Prop} {B0 W W':World} {hR:List Od} {mk:Value->List Value} {x:List Bool} {f:Nat->Value}
theorem rb_val (h:RB C B0 hR mk x f W)(i:Nat)(v:Value)(hv:C i v)(hi:i≠2/\i≠5/\i≠7/\i≠8/\i≠9):RB C B0 hR mk (x.set i true) (upd f i v) W:=by
 obtain⟨Y,h5,h7,h8,h9⟩:=hi;refine⟨zC h.c hv,h.bel,?_,?_,?_,?_,?_⟩ <;> simp only[gq Y,gq h5,gq h7,gq h8,gq h9,zk f v Y.symm,zk f v h5.symm,zk f v h7.symm,zk f v h8.symm,zk f v h9.symm]
 ·exact h.m2
 ·exact h.m5
 ·exact h.m7
 ·exact h.m8
 ·exact h.m9
theorem rb_2 (h:RB C B0 hR mk x f W)(n5:x[5]? = some false)(n8:x[8]? = some false)(n7:x[7]? = some false)(n9:x[9]? = some false)(hc:∀v,C 2 v):RB C B0 hR mk (x.set 2 true) (upd f 2 (.slice (some (J W.heap.size 0)) 0 0)) (W.alloc (mq #[] 65)):=
 ⟨zC h.c (hc _),h.bel.alloc h.bel.size _,fun _ _=>(by rw[zo];exact World.ownsRow_made W #[] 0 h.bel.size (by decide) rfl),fun e=>(by rw[gq (by decide),n5] at e;cases e),fun e=>(by rw[gq (by decide),n7] at e;cases e),fun e=>(by rw[gq (by decide),n8] at e;cases e),fun e=>(by rw[gq (by decide),n9] at e;cases e)⟩
theorem rb_5 (h:RB C B0 hR mk x f W)(Y:x[2]? = some true)(n5:x[5]? = some false)(n7:x[7]? = some false)(n8:x[8]? = some false)(n9:x[9]? = some false)(hc:∀v,C 5 v){v':Value}(Q:ORow W' B0.heap.size v' hR)(X:W.grownBy W' (f 2).ownBlock):RB C B0 hR mk (x.set 5 true) (upd f 5 v') W':=
 ⟨zC h.c (hc _),h.bel.grown X h.bel.size (fun k hk=>((h.m2 Y n5).lt k hk).1),fun _ e=>(by rw[gqs n5] at e;cases e),fun _=>(by rw[zo];exact Q),fun e=>(by rw[gq (by decide),n7] at e;cases e),fun e=>(by rw[gq (by decide),n8] at e;cases e),fun e=>(by rw[gq (by decide),n9] at e;cases e)⟩
theorem rb_7 (h:RB C B0 hR mk x f W)(n8:x[8]? = some false)(n9:x[9]? = some false)(hc:∀v,C 7 v):RB C B0 hR mk (x.set 7 true) (upd f 7 (.agg (mk (f 5)).toArray)) W:=by
 refine⟨zC h.c (hc _),h.bel,?_,?_,fun _=>?_,fun e=>?_,fun e=>?_⟩
 ·rw[gq (by decide),gq (by decide),zk _ _ (by decide)];exact h.m2
 ·rw[gq (by decide),zk _ _ (by decide)];exact h.m5
 ·rw[zo,zk _ _ (by decide)]
 ·rw[gq (by decide),n8] at e;cases e
 ·rw[gq (by decide),n9] at e;cases e
theorem rb_8 (h:RB C B0 hR mk x f W)(h5:x[5]? = some true)(h7:x[7]? = some true)(n9:x[9]? = some false)(hc:∀v,C 8 v):RB C B0 hR mk (x.set 8 true) (upd f 8 (I W.heap.size 0)) (W.alloc (mq (mk (f 5)).toArray 74)):=by
 have E:=mn W (mq (mk (f 5)).toArray 74);refine⟨zC h.c (hc _),h.bel.alloc h.bel.size _,fun _ e=>?_,fun _=>?_,fun _=>?_,fun _=>⟨W.heap.size,zo _ _ _,h.bel.size,by simp,?_,?_⟩,fun e=>?_⟩
 ·rw[gq (by decide),h5] at e;cases e
 ·rw[zk _ _ (by decide)];exact zt (h.m5 h5) E
 ·rw[zk _ _ (by decide),zk _ _ (by decide)];exact h.m7 h7
 ·rw[zk _ _ (by decide)];exact zn W (mk (f 5)) 74
 ·exact⟨_,heap_alloc_new W _⟩
 ·rw[gq (by decide),n9] at e;cases e
theorem rb_9 (h:RB C B0 hR mk x f W)(hc:∀v,C 9 v):RB C B0 hR mk (x.set 9 true) (upd f 9 (f 8)) W:=by
 refine⟨zC h.c (hc _),h.bel,?_,?_,?_,?_,fun _=>?_⟩
 ·rw[gq (by decide),gq (by decide),zk _ _ (by decide)];exact h.m2
 ·rw[gq (by decide),zk _ _ (by decide)];exact h.m5
 ·rw[gq (by decide),zk _ _ (by decide),zk _ _ (by decide)];exact h.m7
 ·rw[gq (by decide),zk _ _ (by decide),zk _ _ (by decide)];exact h.m8
 ·rw[zo,zk _ _ (by decide)]
end
theorem l05Begin_any (next:Int)(vb:Value)(l:List Od)(w:World)(hr:RdR Od.vs 6 w vb l)(hs:SlOk vb)(hn:l.length<=1000) :
  Calls Tryz.prog 58 #[.agg #[H next,vb]] w fun x w'=>∃cl vl,x = .returned (I cl 0)/\MS cl w.heap.size w' vl (.slice none 0 0) vb (gr0 next l) zOd 0 next [] l/\yn w w':=by
 obtain⟨i0,vk,uI,uG,uZ⟩:=info_parts Tryz.infoOrder;obtain⟨a,cap,rfl,xC,hc⟩:=id hr
 have HNA:Hid (l ≠ []->∀b off n c,Value.slice a l.length cap = .slice (some (J b off)) n c->b<w.heap.size):=fun xr b off n c e=>by
  obtain⟨b2,o2,e2,E,-⟩:=hc xr;simp only[Value.slice.injEq] at e;rw[e.1] at e2;simp only[Option.some.injEq,Addr.mk.injEq,and_true] at e2;rw[e2.1];exact E
 obtain⟨xD,HX⟩:=mu w [H next,.slice a l.length cap] 27;have HB:=Z xD;have vn:=Z (zi hr xD ya);have jg:=Z hs;clear hr hs hc xD;go_enter Tryz.func58,Tryz.ntmps58;refine ms fun mR HK=>?_;go_wp2_with fail;refine U HK _ _ ?_;clear HK;generalize (w.alloc (mq #[H next,.slice a l.length cap] 27))=hg at HB HX vn |-;have hSX:w.heap.size<hg.heap.size:=yL _ _ (A (U HX) 0 rfl);go_wp2_with fail;refine zu (RBA (fun f=>{ tmps:=#[.agg #[H next,.slice a l.length cap],I w.heap.size 0,f 9,f 0,f 1,f 2,f 3,f 4,f 5,f 6,f 7,f 8],defers:=[] }) (fun j v=>∀u,([some (I w.heap.size 0),some (H next),none,some (I w.heap.size 1),some (.slice a l.length cap),none,some (.agg #[H next,.slice a l.length cap]),none,none,none]:List (Option Value))[j]? = some (some u)->v=u) hg l (fun v=>msV v (.slice none 0 0) (.slice a l.length cap) (gr0 next l) zOd 0 next)) (by kernel_rfl) ?_ ?_ ?_
 ·have vN:∀j,(List.replicate 10 false)[j]? = some true->False:=fun j hj=>by rw[yJ] at hj;split at hj <;> simp at hj
  exact⟨fun j=>if j=9 then .pointer none else M,rfl,⟨fun j hj=>(vN j hj).elim,⟨rfl,rfl,rfl,Nat.le_refl _,fun _ _=>rfl⟩,fun h=>(vN _ h).elim,fun h=>(vN _ h).elim,fun h=>(vN _ h).elim,fun h=>(vN _ h).elim,fun h=>(vN _ h).elim⟩⟩
 ·rintro x zb h2 ⟨f,rfl,L⟩ hx xS;have xq:=eE xS hx (acyc _ (by kernel_rfl));obtain⟨cl,e8,hO,hOY,jM,hty⟩:=L.m8 (xq 8 (by simp));have e9:=(L.m9 (xq 9 (by simp))).trans e8;have oW:Hid (MS cl w.heap.size h2 (f 5) (.slice none 0 0) (.slice a l.length cap) (gr0 next l) zOd 0 next [] l):=⟨jM,zU (L.m5 (xq 5 (by simp))) (U HB).size,⟨none,0,rfl,by decide,fun h=>absurd rfl h⟩,zi (U vn) L.bel ya,U jg,hty,yO (U HB).size hO,fun _=>⟨rfl,rfl,rfl⟩,fun h=>absurd rfl h,U HNA,fun h=>absurd rfl h⟩;have HBY:=Z ((U HB).trans (L.bel.mono (U HB).size));dsimp only;rw[e9];clear L xq xS hx e8 e9 jM hty hO hOY;generalize f 0=v0,f 1=v1,f 2=v2,f 3=v3,f 4=v4;generalize f 5=v5 at *;generalize f 6=v6,f 7=v7,f 8=v8;go_wp2_with fail;go_ret;exact⟨cl,v5,rfl,U oW,U HBY⟩
 ·rintro x zb V i op ⟨f,rfl,L⟩ xn hx Q xu R;have xw:=Z L;have vG:=L.bel
  match i,Q with
  | 0,Q =>
   cases Q;clear R L xn;go_simp;exact⟨upd f 0 (I w.heap.size 0),by simp[upd],rb_val (U xw) 0 _ (yi rfl) (by decide)⟩
  | 1,Q =>
   cases Q;have g0:=L.c 0 (ye R 0 rfl) _ rfl;have z0:=A (zg (U HX) vG hSX) 0 rfl;clear R L xn;go_simp;exact⟨upd f 1 (H next),by simp[upd,g0],rb_val (U xw) 1 _ (yi rfl) (by decide)⟩
  | 2,Q =>
   cases Q;have n5:x[5]? = some false:=zH xn 10 2 5 (by kernel_rfl) hx (by simp) xu;have n7:x[7]? = some false:=zH xn 10 2 7 (by kernel_rfl) hx (by simp) xu;have n8:x[8]? = some false:=zH xn 10 2 8 (by kernel_rfl) hx (by simp) xu;have n9:x[9]? = some false:=zH xn 10 2 9 (by kernel_rfl) hx (by simp) xu;clear R L xn;go_simp;exact⟨upd f 2 (.slice (some (J V.heap.size 0)) 0 0),by simp[upd],rb_2 (U xw) n5 n8 n7 n9 (fun v u hu=>by cases hu)⟩
  | 3,Q =>
   cases Q;clear R L xn;go_simp;exact⟨upd f 3 (I w.heap.size 1),by simp[upd],rb_val (U xw) 3 _ (yi rfl) (by decide)⟩
  | 4,Q =>
   cases Q;have g3:=L.c 3 (ye R 3 rfl) _ rfl;have z1:=A (zg (U HX) vG hSX) 1 rfl;clear R L xn;go_simp;exact⟨upd f 4 (.slice a l.length cap),by simp[upd,g3],rb_val (U xw) 4 _ (yi rfl) (by decide)⟩
  | 5,Q =>
   cases Q;have n7:x[7]? = some false:=zH xn 10 5 7 (by kernel_rfl) hx (by simp) xu;have n8:x[8]? = some false:=zH xn 10 5 8 (by kernel_rfl) hx (by simp) xu;have n9:x[9]? = some false:=zH xn 10 5 9 (by kernel_rfl) hx (by simp) xu;have k2:x[2]? = some true:=R ⟨2,.data⟩ (by simp) rfl;have g4:=L.c 4 (ye R 4 rfl) _ rfl;have oi:=Z (L.m2 k2 xu)
   have HRDV:Hid (∀ad,a=some ad->∀j u,(l.flatMap Od.vs)[j]? = some u->V.cell? (ad.add j)=some u):=fun ad had=>by
    have h:=zi (U vn) vG ya;rw[had] at h;exact rd_src h
   clear R L xn;rw[if_pos (by rfl)];rcases U jg with h|⟨ad,nn,cc,h⟩
   ·simp only[Value.slice.injEq] at h;have hL:l = []:=List.length_eq_zero_iff.1 h.2.1;refine lr (.tmp 5) (.tmp 7) 25 rfl hg.heap.size 65 i0 6 Tryz.underlying25 vk (f 2) 0 [] rfl (U oi) (by show f 4 = _;rw[g4,h.1,h.2.1,h.2.2]) ?_;exact⟨upd f 5 (f 2),rfl,rb_5 (U xw) k2 xu n7 n8 n9 (fun v u hu=>by cases hu) (by rw[hL];exact U oi) (yS _ _)⟩
   ·simp only[Value.slice.injEq] at h;refine wp_append_own V (.tmp 5) (.tmp 7) 25 rfl hg.heap.size 65 i0 _ 6 56 Tryz.underlying25 vk uI uG uZ rfl (by decide) (f 2) 0 [] rfl (U oi) ad l.length cap (l.flatMap Od.vs) (by show f 4 = _;rw[g4,h.1]) (by rw[zY Od.len]) (U HRDV ad h.1) (fM l) (by unfold maxLen;omega) (by omega) vG.size ?_;intro v' w' xY uR _;refine⟨upd f 5 v',rfl,rb_5 (U xw) k2 xu n7 n8 n9 (fun v u hu=>by cases hu) ?_ uR⟩;show w'.ownsRow _ _ _ _ l.length _;simpa using xY
  | 6,Q =>
   cases Q;obtain ⟨z0,z1⟩:=q0_2 (zg (U HX) vG hSX) rfl;clear R L xn;go_simp;exact⟨upd f 6 (.agg #[H next,.slice a l.length cap]),by simp[upd],rb_val (U xw) 6 _ (yi rfl) (by decide)⟩
  | 7,Q =>
   cases Q;have g1:=L.c 1 (ye R 1 rfl) _ rfl;have g6:=L.c 6 (ye R 6 rfl) _ rfl;have n8:x[8]? = some false:=zH xn 10 7 8 (by kernel_rfl) hx (by simp) xu;have n9:x[9]? = some false:=zH xn 10 7 9 (by kernel_rfl) hx (by simp) xu;obtain⟨ga,gc,g5⟩:=gf (zI (L.m5 (ye R 5 rfl)) (by omega));have aw:=Z (rb_7 (U xw) n8 n9 (fun v u hu=>by cases hu));rw[g5] at aw;unfold msV at aw;clear R L xn;go_simp;exact⟨_,by simp[upd,g1,g5,g6];exact⟨rfl,rfl,rfl,rfl,rfl,rfl,rfl,rfl⟩,U aw⟩
  | 8,Q =>
   cases Q;have n9:x[9]? = some false:=zH xn 10 8 9 (by kernel_rfl) hx (by simp) xu;have k7:x[7]? = some true:=R ⟨7,.data⟩ (by simp) rfl;have k5:x[5]? = some true:=yf xn 7 rfl k7 5 rfl;have g7:=L.m7 k7;have aw:=Z (rb_8 (U xw) k5 k7 n9 (fun v u hu=>by cases hu));simp only[msV,gr0] at g7 aw;clear R L xn;go_simp;exact⟨upd f 8 (I V.heap.size 0),by simp[upd,g7],U aw⟩
  | 9,Q =>
   cases Q;clear R L xn;go_simp;exact⟨upd f 9 (f 8),by simp[upd],rb_9 (U xw) (fun v u hu=>by cases hu)⟩
  | i+10,Q=>simp at Q
def RepE (w:World)(va:Value)(n0:Int)(l0:List Od)(cs:Gr × Int)(x:Ending)(w':World):Prop:=∃cl j,x = .returned (.tuple #[I cl 0,H cs.2,H j])/\yn w w'/\(cs.2=0->∃vl vd t kd dy,MS cl w.heap.size w' vl vd va cs.1 t kd n0 dy l0/\GI cs.1/\MR cs.1 t kd dy)
theorem l05Replay_any (next:Int)(vb:Value)(l:List Od)(v:Value)(es:List Ev)(w:World)(hr:RdR Od.vs 6 w vb l)(hs:SlOk vb)(hi:GI (gr0 next l))(he:RdR Ev.vs 14 w v es)(vD:∀e∈es,okE e=true)(km:∀e∈es,e.cmd.g.size<=maxLen) :
  Calls Tryz.prog 25 #[.agg #[H next,vb],v] w fun x w'=>RepE w vb next l (runG (gr0 next l) es) x w':=by
 have hsf:=sfl;have ah:Hid (∀cl k j w',k=(runG (gr0 next l) es).2->yn w w'->((runG (gr0 next l) es).2=0->∃vl vd t kd dy,MS cl w.heap.size w' vl vd vb (runG (gr0 next l) es).1 t kd next dy l/\GI (runG (gr0 next l) es).1/\MR (runG (gr0 next l) es).1 t kd dy)->RepE w vb next l (runG (gr0 next l) es) (.returned (.tuple #[I cl 0,H k,H j])) w'):=fun cl k j w' D Y h3=>⟨cl,j,by rw[D],Y,h3⟩;generalize RepE w vb next l (runG (gr0 next l) es)=C at ah |-;generalize hF:runG (gr0 next l) es=cs at ah;have HF:=Z hF;clear hF;have xD:=mn w (mq #[H next,vb] 27);have cW:=zi hr xD ya;have HEW:=Z he;have vv:=Z (l05Begin_any next vb l (w.alloc (mq #[H next,vb] 27)) cW hs (yO hi.len (by decide)));have HI:=Z hi;have kt:=Z vD;have HSZ:=Z km;have ud:=Z xD;have oQ:=Z (zn w [H next,vb] 27)
 have HNA:Hid (l ≠ []->∀b off n c,vb = .slice (some (J b off)) n c->b<w.heap.size):=fun xr b off n c e=>by
  obtain⟨a2,c2,e2,-,cJ⟩:=hr;obtain⟨b2,o2,e3,E,-⟩:=cJ xr;rw[e2,e3] at e;simp only[Value.slice.injEq,Option.some.injEq,Addr.mk.injEq,and_true] at e;rw[<- e.1.1];exact E
 obtain⟨a,cap,rfl,xC,hc⟩:=he;clear hr hs hi vD km xD cW hc;go_enter Tryz.func25,Tryz.ntmps25;refine ms fun mR HK=>?_;go_wp2_with fail;refine U HK _ _ ?_;clear HK;generalize (w.alloc (mq #[H next,vb] 27))=W1 at vv ud oQ |-;obtain ⟨x0,x1⟩:=q0_2 (U oQ) rfl;go_wp2_with fail;refine(U vv).mono ?_;rintro e w2 ⟨cl,vl,rfl,ug,xO⟩;have uj:Hid (MS cl w.heap.size w2 vl (.slice none 0 0) vb (gr0 next l) zOd 0 next [] l):=⟨ug.box,zU ug.row (U ud).size,ug.days,ug.ahd,ug.sla,ug.typ,yO (U ud).size ug.hO,ug.eqd,ug.ndc,U HNA,fun h=>absurd rfl h⟩;have xv:=Z (mr (U ud) xO);clear ug xO x0 x1 vv oQ ud;go_wp2_with fail;go_loopw [8] (fun iv wr=>∃(k:Nat) (g:Gr) (vl vd:Value) (t:Od) (kd:Int) (dy:List Od),k<=es.length/\iv=H k/\Hid (MS cl w.heap.size wr vl vd vb g t kd next dy l)/\Hid (GI g/\MR g t kd dy)/\Hid (cs=runG g (es.drop k))/\Hid (yn w wr)) (fun iv _=>es.length-(intOf iv).toNat)
 case atStart=>exact⟨0,gr0 next l,vl,_,zOd,0,[],Nat.zero_le _,rfl,uj,⟨U HI,mr_start next l⟩,(U HF).symm,xv⟩
 case round =>
  obtain⟨k,g,vl,vd,t,kd,dy,hk,rfl,HG,HIG,ux,HB⟩:=hrel;clear uj xv
  by_cases xM:k<es.length
  ·obtain⟨e,jo⟩:∃e,es[k]? = some e:=⟨_,yI xM⟩;have uh:=Z (U ux);rw[drop_ev jo] at uh;have vr:=yP jo;have HOE:=Z (U kt e vr);have HBR:=Z (broken_any e wr (U HG) (U HIG).1 (U HIG).2 (ik (U HOE)) (U HSZ e vr));have uQ:Hid (zE g e=0->∀W,MS cl w.heap.size W vl vd vb g t kd next dy l->Calls Tryz.prog 60 #[I cl 0,evV e] W fun x w'=>TakE cl w.heap.size vb next l g t kd dy e W x w'):=fun h0 W hW=>take_any e W hW (U HIG).1 (U HIG).2 (U HOE) h0;have jG:Hid (zE g e=0->GI (dQ g e)/\MR (dQ g e) (tkM g t e) (kdM kd e) (dyM g dy e)):=fun h=>⟨gi_step (U HIG).1 (U HOE) h,mr_step (U HIG).1 (U HIG).2 (U HOE) h⟩;have uP:Hid (zE g e≠0->cs=(g,zE g e)):=fun h=>(U uh).trans (runG_stop h);have HGO:Hid (zE g e=0->cs=runG (dQ g e) (es.drop (k+1))):=fun h=>(U uh).trans (runG_go h)
   have jF:Hid (∃b off,a=some (J b off)/\∀W,yn w W->W.rangeAt b (off+k*14) e.vs):=by
    obtain⟨a2,cap2,e2,-,cJ⟩:=U HEW;simp only[Value.slice.injEq,true_and] at e2;obtain⟨rfl,rfl⟩:=e2;obtain⟨b,off,rfl,pl,xW⟩:=cJ (by intro h;rw[h] at xM;simp at xM);exact⟨b,off,rfl,fun W hW=>zc (xW k e jo) hW pl⟩
   obtain⟨b,off,rfl,xn⟩:=U jF;have jZ:=Z xn;have uL:(k:Int)<es.length:=by omega
   have x0:wr.cell? (J b (off+k*14)) = _:=xn wr (U HB) 0 _ rfl;have x1:=xn wr (U HB) 1 _ rfl;have x2:=xn wr (U HB) 2 _ rfl;have x3:=xn wr (U HB) 3 _ rfl;have x4:=xn wr (U HB) 4 _ rfl;have x5:=xn wr (U HB) 5 _ rfl;have x6:=xn wr (U HB) 6 _ rfl;have x7:=xn wr (U HB) 7 _ rfl;have x8:=xn wr (U HB) 8 _ rfl;have x9:=xn wr (U HB) 9 _ rfl;have kS:=xn wr (U HB) 10 _ rfl;have kT:=xn wr (U HB) 11 _ rfl;have kU:=xn wr (U HB) 12 _ rfl;have kV:=xn wr (U HB) 13 _ rfl;unfold TakE at uQ;generalize zE g e=ru at HBR uQ jG uP HGO;generalize dQ g e=g2 at uQ jG HGO;generalize tkM g t e=t2 at uQ jG;generalize kdM kd e=kd2 at uQ jG;generalize dyM g dy e=dy2 at uQ jG;obtain⟨xm,⟨ck,F,ct,O,cq,ci,cp,cg⟩,id,xj,qty,xk,xh⟩:=e;unfold evV at HBR uQ;simp only at HBR uQ x0 x1 x2 x3 x4 x5 x6 x7 x8 x9 kS kT kU kV;clear xn jo vr uh jF HOE;go_wp2_with fail;refine(U HBR).mono ?_;rintro x w3 ⟨rfl,xL⟩;have xI:=Z (mr (U HB) xL);have vw:=Z (zy (U HG) xL);clear xL HBR x0 x1 x2 x3 x4 x5 x6 x7 x8 x9 kS kT kU kV
   by_cases h0:ru=0
   ·have b0:(ru != 0)=false:=by simpa using h0
    have kw:=Z (U uQ h0 w3 (U vw));have xU:=Z (U jG h0);have xT:=Z (U HGO h0);have x0:w3.cell? (J b (off+k*14)) = _:=U jZ w3 (U xI) 0 _ rfl;have x1:=U jZ w3 (U xI) 1 _ rfl;have x2:=U jZ w3 (U xI) 2 _ rfl;have x3:=U jZ w3 (U xI) 3 _ rfl;have x4:=U jZ w3 (U xI) 4 _ rfl;have x5:=U jZ w3 (U xI) 5 _ rfl;have x6:=U jZ w3 (U xI) 6 _ rfl;have x7:=U jZ w3 (U xI) 7 _ rfl;have x8:=U jZ w3 (U xI) 8 _ rfl;have x9:=U jZ w3 (U xI) 9 _ rfl;have kS:=U jZ w3 (U xI) 10 _ rfl;have kT:=U jZ w3 (U xI) 11 _ rfl;have kU:=U jZ w3 (U xI) 12 _ rfl;have kV:=U jZ w3 (U xI) 13 _ rfl
    try simp only at x0 x1 x2 x3 x4 x5 x6 x7 x8 x9 kS kT kU kV
    clear h0 uP HGO jG uQ;go_wp2_with fail;refine(U kw).mono ?_;rintro x w4 ⟨rfl,xy,vl2,vd2,hm4⟩;have xF:=Z ((U xI).trans xy);have jS:=Z hm4;clear xy hm4 kw x0 x1 x2 x3 x4 x5 x6 x7 x8 x9 kS kT kU kV;go_wp2_with fail;go_roundw
    case rel=>exact⟨k+1,g2,vl2,vd2,t2,kd2,dy2,by omega,by go_num,jS,xU,xT,xF⟩
    case measure=>simp[intOf];omega
   ·have b0:(ru != 0)=true:=by simpa using h0
    have HQ:=Z (U uP h0);have HN0:=Z h0;clear h0 uP HGO jG uQ;go_wp2_with fail;exact U ah cl ru _ _ (by rw[U HQ]) (U xI) (fun h=>absurd (by rw[U HQ] at h;exact h) (U HN0))
  ·have aC:k=es.length:=by omega
   have HQ:=Z (U ux);rw[aC,List.drop_length,runG] at HQ;have hge:¬ ((k:Int)<es.length):=by omega
   go_wp2_with fail;exact U ah cl 0 _ _ (by rw[U HQ]) (U HB) (fun _=>⟨vl,vd,t,kd,dy,by rw[U HQ];exact⟨U HG,U HIG⟩⟩)
end Go.Proofs.YthhkapcbocgcoaaGreatDoor
