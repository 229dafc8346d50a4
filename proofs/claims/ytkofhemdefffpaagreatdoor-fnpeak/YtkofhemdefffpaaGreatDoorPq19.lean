/-.-/
import Derived.Test.YtkofhemdefffpaaGreatDoorPq18
set_option linter.unusedVariables false
set_option maxHeartbeats 6400000
set_option maxRecDepth 100000
namespace Go.Proofs.YtkofhemdefffpaaGreatDoor
open Go.RowKit
section
variable {C:Nat->Value->Prop} {mb:Nat} {tv:List Value} {base W W':World} {x:List Bool} {f:Nat->Value}
end
theorem row_end {e sz n mb R B C:Nat}{v:Value}{xs:List Value}{W V2:World}(h:W.ownsRow B e sz v n xs)(hm:some mb≠v.ownBlock)(K:yp W V2)(hR:R<B)(hC:C<=B)(us vs:List Value)(o1 o2:Nat):((V2.setCells mb o1 us).setCells R o2 vs).ownsRow C e sz v n xs:=by
 have Z:V2.ownsRow B e sz v n xs:=World.ownsRow.kept (row:=none) h (ft K yb) (by cases v.ownBlock <;> simp);have Q:=iz hm us o1 V2 Z;have I:=iz (b:=R) (fun e'=>by have:=(h.lt R e'.symm).1;omega) vs o2 _ Q;refine⟨I.1,?_⟩;rcases I.2 with k1|⟨g',c',xt,k1,k2,k3⟩
 ·exact .inl k1
 ·exact .inr ⟨g',c',xt,k1,yO hC k2,k3⟩
structure GRs (W:World) (B:Nat) (gv:Value) (gl:List (List Ev)):Prop where
 ex:∃gs:List Value,GRow W B gv gs/\gs.length=gl.length/\∀(i:Nat) (g:Value) (es:List Ev),gs[i]? = some g->gl[i]? = some es->ERow W B g es
def RdG (W:World)(v:Value)(gl:List (List Ev)):Prop:=
 ∃(a:Option Addr) (cap:Nat),v = .slice a gl.length cap/\gl.length<=1073741824 /\
  (gl ≠ []->∃b off,a=some (Y b off)/\b<W.heap.size/\∀i es,gl[i]? = some es->∃g,W.cell? (Y b (off+i))=some g/\RdR Ev.vs 14 W g es)
theorem rdG_below {C:Nat}{W W':World}{v:Value}{gl:List (List Ev)}(h:RdG W v gl)(K:Below C W W')(hC:W.heap.size<=C):RdG W' v gl:=by
 obtain⟨a,cap,e,hl,hc⟩:=h;refine⟨a,cap,e,hl,fun xE=>?_⟩;obtain⟨b,off,Z,Q,I⟩:=hc xE;refine⟨b,off,Z,yK Q K.size,fun i es hi=>?_⟩;obtain⟨g,h4,h5⟩:=I i es hi;exact⟨g,(K.cell (p:=(Y b (off+i))) (yK Q hC)).trans h4,zq h5 K hC⟩
def totG (t:Tot)(gl:List (List Ev)):Tot:=gl.foldl (fun t es=>es.foldl cntM t) t
def totM (gl:List (List Ev))(l:List Od):Tot:={ totG { tot0 with gr:=gl.length } gl with li:=l.length,le:=livS l }
theorem totG_step (t:Tot)(gl:List (List Ev)){k:Nat}{es:List Ev}(h:gl[k]? = some es):totG t (gl.take (k+1))=es.foldl cntM (totG t (gl.take k)):=by
 unfold totG;rw[List.take_add_one,h,List.foldl_append];rfl
theorem cntM_step (t:Tot)(es:List Ev){k:Nat}{e:Ev}(h:es[k]? = some e):(es.take (k+1)).foldl cntM t=cntM ((es.take k).foldl cntM t) e:=by
 rw[List.take_add_one,h,List.foldl_append];rfl
structure JT (w:World) (bk:List Value) (W:World) (T:Tot):Prop where
 r:W.rangeAt (w.heap.size+1+1) 0 T.vs
 t:W.there (w.heap.size+1+1) 0 8
 o:W.there (w.heap.size+1) 0 8
 k:W.rangeAt w.heap.size 0 bk
 b:Below w.heap.size w W
 z:w.heap.size+1+1+1<=W.heap.size
theorem jt_step {w W V:World}{bk:List Value}{T T':Tot}(h:JT w bk W T)(K:yp W V):JT w bk (V.setCells (w.heap.size+1+1) 0 T'.vs) T':=by
 have hz:=h.z;have E:∀b,b<w.heap.size+1+1->(V.setCells (w.heap.size+1+1) 0 T'.vs).heap[b]? = W.heap[b]?:=fun b cO=>(lr _ b (by omega) _ 0 V).trans (K.block b (by omega));have jZ:=zk h.t K (by omega);refine⟨yY V _ 0 _ (fun j hj=>jZ j (by simpa[Tot.vs] using hj)),fun j hj=>⟨?_,?_⟩,there_blk h.o (E _ (by omega)),fun j u hj=>?_,zj (w.heap.size+1+1) (by omega) _ 0 V (h.b.trans (K.mono h.b.size)),by rw[gw];exact yO hz K.size⟩
 ·have:=yY V (w.heap.size+1+1) 0 T'.vs (fun j hj=>jZ j (by simpa[Tot.vs] using hj)) j (T'.vs[j]'(by simpa[Tot.vs] using hj)) (yI _);rw[this];rfl
 ·rw[lV];exact(jZ j hj).2
 ·rw[yR (a:=(yr w (0+j))) (E w.heap.size (by omega))];exact h.k j u hj
theorem jt_below {w W V:World}{bk:List Value}{T:Tot}(h:JT w bk W T)(K:yp W V):JT w bk V T:=by
 have hz:=h.z;exact⟨zf h.r K (by omega),zk h.t K (by omega),zk h.o K (by omega),zf h.k K (by omega),h.b.trans (K.mono h.b.size),yO hz K.size⟩
theorem jt_set {w W:World}{bk:List Value}{T:Tot}(h:JT w bk W T)(x y:Int):JT w bk ((W.setCell (Y (w.heap.size+1+1) 6) (H x)).setCell (Y (w.heap.size+1+1) 7) (H y)) { T with li:=x,le:=y }:=by
 have r1:=gN (j:=6) (u:=H x) h.r (by simp[Tot.vs]);have r2:=gN (j:=7) (u:=H y) r1 (by simp[Tot.vs]);refine⟨r2,zU (zU h.t),zU (zU h.o),fun j u hj=>?_,(h.b.setCell (p:=(Y (w.heap.size+1+1) 6)) (show w.heap.size<=w.heap.size+1+1 by omega) _).setCell (p:=(Y (w.heap.size+1+1) 7)) (show w.heap.size<=w.heap.size+1+1 by omega) _,by simp only[World.setCell,Array.size_modify];exact h.z⟩;have xE:∀q:Nat,((Y (w.heap.size+1+1) q):Addr)≠(yr w (0+j)):=fun q e=>by have:=congrArg Addr.block e;simp at this;omega
 exact(yM _ _ _ _ (xE 7)).trans ((yM _ _ _ _ (xE 6)).trans (h.k j u hj))
def CV (vs:List Value)(W:World)(j:Nat)(v:Value):Prop:=vs[j]? = some v
theorem l04Totals_any (v:Value)(gl:List (List Ev))(next:Int)(vq:Value)(l:List Od)(w:World)(F:RdG w v gl)(hr:RdR Od.vs 6 w vq l) :
  Calls Tryz.prog 40 #[v,.agg #[H next,vq]] w fun r w'=>r=yn (.agg #[H (totM gl l).gr,H (totM gl l).ac,H (totM gl l).rf,H (totM gl l).tr,H (totM gl l).vo,H (totM gl l).no,H (totM gl l).li,H (totM gl l).le])/\yp w w':=by
 have HR:=U hr;obtain⟨aq,cq,rfl,hlq,hcq⟩:=hr;clear hcq hlq;obtain⟨a,cap,rfl,xC,hc⟩:=F
 have xp:∀(k:Nat) (es:List Ev),gl[k]? = some es->∃b off,a=some (Y b off)/\b<w.heap.size/\∃ae ce,es.length<=1073741824/\w.cell? (Y b (off+k))=some (.slice ae es.length ce)/\∀(j:Nat) (e:Ev),es[j]? = some e->∃b' qw,ae=some (Y b' qw)/\b'<w.heap.size/\w.rangeAt b' (qw+j*14) e.vs:=by
  intro k es E;obtain⟨b,off,Z,Q,I⟩:=hc (by intro h;rw[h] at E;simp at E);obtain⟨g,h4,ae,ce,rfl,hel,h5⟩:=I k es E;refine⟨b,off,Z,Q,ae,ce,hel,h4,fun j e hj=>?_⟩;obtain⟨b',qw,k1,k2,k3⟩:=h5 (by intro h;rw[h] at hj;simp at hj);exact⟨b',qw,k1,k2,k3 j e hj⟩
 have HC:=U xp;clear xp hc;have hsf:=sfl;have HTM:Hid (totM gl l = { totG { tot0 with gr:=gl.length } gl with li:=l.length,le:=livS l }):=rfl;generalize totM gl l=TM at HTM |-;have xG:=zi w (me #[H next,.slice aq l.length cq] 31);have ug:((w.alloc (me #[H next,.slice aq l.length cq] 31)).alloc (me #[H 0,H 0,H 0,H 0,H 0,H 0,H 0,H 0] 44)).heap.size=w.heap.size+1+1:=by rw[zi,xG]
 have r1:=zm w [H next,.slice aq l.length cq] 31;have t2:=zM (w.alloc (me #[H next,.slice aq l.length cq] 31)) [H 0,H 0,H 0,H 0,H 0,H 0,H 0,H 0] 44;rw[xG] at t2;have b1:=mc w (me #[H next,.slice aq l.length cq] 31);have b2:Below (w.heap.size+1) (w.alloc (me #[H next,.slice aq l.length cq] 31)) ((w.alloc (me #[H next,.slice aq l.length cq] 31)).alloc (me #[H 0,H 0,H 0,H 0,H 0,H 0,H 0,H 0] 44)):=(Below.refl _ _).alloc (by omega) _;have HX:Hid (_/\_/\_/\_):=⟨zf r1 b2 (by omega),t2,b1.trans (b2.mono (by omega)),ug⟩;clear xG ug r1 t2 b1 b2;go_enter Tryz.func40,Tryz.ntmps40;refine mg fun hb xw=>?_;go_wp2_with fail;refine O xw _ _ ?_;clear xw;generalize ((w.alloc (me #[H next,.slice aq l.length cq] 31)).alloc (me #[H 0,H 0,H 0,H 0,H 0,H 0,H 0,H 0] 44))=xh at HX |-;have HX:Hid (xh.rangeAt w.heap.size 0 [H next,.slice aq l.length cq]/\xh.there (w.heap.size+1) 0 8/\yp w xh/\xh.heap.size=w.heap.size+1+1):=O HX;have hXs:=(O HX).2.2.2
 have HJ:Hid (JT w [H next,.slice aq l.length cq] (xh.alloc (me #[H gl.length,H 0,H 0,H 0,H 0,H 0,H 0,H 0] 44)) (totG { tot0 with gr:=gl.length } (gl.take 0))):=by
  have b3:=mc xh (me #[H gl.length,H 0,H 0,H 0,H 0,H 0,H 0,H 0] 44);have r3:=zm xh [H gl.length,H 0,H 0,H 0,H 0,H 0,H 0,H 0] 44;have t3:=zM xh [H gl.length,H 0,H 0,H 0,H 0,H 0,H 0,H 0] 44;rw[hXs] at r3 t3;exact⟨r3,t3,zk (O HX).2.1 b3 (by omega),zf (O HX).1 b3 (by omega),(O HX).2.2.1.trans (b3.mono (by omega)),by rw[zi];omega⟩
 refine mg fun hb xw=>?_;go_wp2_with fail;refine O xw _ _ ?_;clear xw;generalize (xh.alloc (me #[H gl.length,H 0,H 0,H 0,H 0,H 0,H 0,H 0] 44))=ya at HJ |-;clear hXs HX;refine mg fun hb xw=>?_;go_wp2_with fail;go_loopw [6] (fun iv wr=>∃(k:Nat),k<=gl.length/\iv=H k/\Hid (JT w [H next,.slice aq l.length cq] wr (totG { tot0 with gr:=gl.length } (gl.take k)))) (fun iv _=>gl.length-(intOf iv).toNat)
 case atStart=>exact⟨0,Nat.zero_le _,rfl,O HJ⟩
 case round =>
  obtain⟨k,E,rfl,ue⟩:=hrel
  by_cases xK:k<gl.length
  ·obtain⟨es,oB⟩:∃es,gl[k]? = some es:=⟨_,yI xK⟩;obtain⟨b,off,rfl,K,ae,ce,hel,aY,hev⟩:=O HC k es oB;have uM:=U (totG_step { tot0 with gr:=gl.length } gl oB);have ux:(k:Int)<gl.length:=by omega
   have HCG:=U aY;have qp:=U hev;generalize totG { tot0 with gr:=gl.length } (gl.take k)=T0 at uM ue;have pn:Hid (JT w [H next,.slice aq l.length cq] wr ((es.take 0).foldl cntM T0)):=O ue;clear oB aY hev ue;go_wp2_with fail;go_loopw [7] (fun jv wq=>∃(j:Nat),j<=es.length/\jv=H j/\Hid (JT w [H next,.slice aq l.length cq] wq ((es.take j).foldl cntM T0))) (fun jv _=>es.length-(intOf jv).toNat)
   case atStart=>exact⟨0,Nat.zero_le _,rfl,O pn⟩
   case round =>
    obtain⟨j,hj,rfl,ue⟩:=hrel;have ku:=U (O ue);clear ue;have gc:wr.cell? (Y b (off+k))=some (.slice ae es.length ce):=((O ku).b.cell (p:=(Y b (off+k))) K).trans (O HCG)
    by_cases hjl:j<es.length
    ·obtain⟨e,hje⟩:∃e,es[j]? = some e:=⟨_,yI hjl⟩;obtain⟨b',qw,rfl,cO,kn⟩:=O qp j e hje;have HNE:=U (cntM_step T0 es hje);have hjl':(j:Int)<es.length:=by omega
     have qT:=U (zf kn (O ku).b cO);have oY:b'<wr.heap.size:=yK cO (O ku).b.size;have hbg:b<wr.heap.size:=yK K (O ku).b.size;have ko:=(O ku).z;generalize (es.take j).foldl cntM T0=T at HNE ku;clear hje kn;go_wp2_with fail;refine zA (RYA (fun f=>{ tmps:=#[.slice (some (Y b off)) gl.length cap,.agg #[H next,.slice aq l.length cq],M,yq w 0,h3 (w.heap.size+1) 0,h3 (w.heap.size+1+1) 0,H k,H j,.slice (some (Y b off)) gl.length cap,H gl.length,.agg #[H gl.length,H 0,H 0,H 0,H 0,H 0,H 0,H 0],H k,.slice (some (Y b off)) gl.length cap,H gl.length,.bool true,u15,u16,H j,.slice (some (Y b off)) gl.length cap,H k,h3 b (off+k),.slice (some (Y b' qw)) es.length ce,H es.length,.bool true,u24,u25,f 0,f 1,f 2,f 3,f 4,f 5,f 6,f 7,f 8,M,M,M,M,M,M,M,M],defers:=[] }) (CV [.agg #[H T.gr,H T.ac,H T.rf,H T.tr,H T.vo,H T.no,H T.li,H T.le],.slice (some (Y b off)) gl.length cap,H k,h3 b (off+k),.slice (some (Y b' qw)) es.length ce,H j,h3 b' (qw+j*14),.agg (yw e.kind e.cmd.k e.cmd.s e.cmd.t e.cmd.l e.cmd.q e.cmd.i e.cmd.p e.cmd.g e.id e.other e.qty e.price e.reason).toArray,.agg #[H (cntM T e).gr,H (cntM T e).ac,H (cntM T e).rf,H (cntM T e).tr,H (cntM T e).vo,H (cntM T e).no,H (cntM T e).li,H (cntM T e).le]]) 9 (fun _ W=>∃V,yp wr V/\W=V.setCells (w.heap.size+1+1) 0 (cntM T e).vs) wr) (by kernel_rfl) ?_ ?_ ?_
     ·exact⟨fun j=>([u26,u27,u28,u29,u30,u31,u32,u33,u34]:List Value)[j]?.getD M,rfl,ry_start (by decide)⟩
     ·rintro x md V ⟨f,rfl,hR⟩ hx xY;have xq:=eM xY hx (acyc _ (by kernel_rfl));obtain⟨V2,xy,eV⟩:=hR.m (xq 9 (by simp));dsimp only;generalize f 0=v0,f 1=v1,f 2=v2,f 3=v3,f 4=v4,f 5=v5,f 6=v6,f 7=v7,f 8=v8;have HJ3:Hid (JT w [H next,.slice aq l.length cq] V (cntM T e)):=by rw[eV];exact jt_step (O ku) xy
      clear eV xy hR xq xY hx qT gc;go_wp2_with fail
      try dsimp only[H,h3,Y,M,yk,yl,yw,yx,yy,yq,yr,me]
      go_roundw
      case rel=>exact⟨j+1,by omega,by go_num,by rw[O HNE];exact O HJ3⟩
      case measure=>simp[intOf];omega
     ·rintro x md V i op ⟨f,rfl,hR⟩ xo hx D xA X;have xJ:=U hR
      match i,D with
      | 0,D =>
       cases D;have hn:x[9]? = some false:=zS xo 12 0 9 (by kernel_rfl) hx (by simp) xA;have vH:=hR.b hn;have y0:=zf (O ku).r vH (by omega) 0 _ rfl;have y1:=zf (O ku).r vH (by omega) 1 _ rfl;have y2:=zf (O ku).r vH (by omega) 2 _ rfl;have y3:=zf (O ku).r vH (by omega) 3 _ rfl;have y4:=zf (O ku).r vH (by omega) 4 _ rfl;have y5:=zf (O ku).r vH (by omega) 5 _ rfl;have y6:=zf (O ku).r vH (by omega) 6 _ rfl;have y7:=zf (O ku).r vH (by omega) 7 _ rfl;clear X hR xo;go_simp;exact⟨upd f 0 (.agg #[H T.gr,H T.ac,H T.rf,H T.tr,H T.vo,H T.no,H T.li,H T.le]),by simp[upd],dO (O xJ) 0 _ hn (by decide) rfl⟩
      | 1,D =>
       cases D;have hn:x[9]? = some false:=zS xo 12 1 9 (by kernel_rfl) hx (by simp) xA;clear X hR xo;go_simp;exact⟨upd f 1 (.slice (some (Y b off)) gl.length cap),by simp[upd],dO (O xJ) 1 _ hn (by decide) rfl⟩
      | 2,D =>
       cases D;have hn:x[9]? = some false:=zS xo 12 2 9 (by kernel_rfl) hx (by simp) xA;clear X hR xo;go_simp;exact⟨upd f 2 (H k),by simp[upd],dO (O xJ) 2 _ hn (by decide) rfl⟩
      | 3,D =>
       cases D;have hn:x[9]? = some false:=zS xo 12 3 9 (by kernel_rfl) hx (by simp) xA;have g1:f 1 = .slice (some (Y b off)) gl.length cap:=(Option.some.inj (hR.c hn 1 (yf X 1 rfl))).symm;have g2:f 2=H k:=(Option.some.inj (hR.c hn 2 (yf X 2 rfl))).symm;clear X hR xo;go_simp;exact⟨upd f 3 (h3 b (off+k)),by simp[upd,g1,g2],dO (O xJ) 3 _ hn (by decide) rfl⟩
      | 4,D =>
       cases D;have hn:x[9]? = some false:=zS xo 12 4 9 (by kernel_rfl) hx (by simp) xA;have g3:f 3=h3 b (off+k):=(Option.some.inj (hR.c hn 3 (yf X 3 rfl))).symm;have vH:=hR.b hn;have y0:=(vH.cell (p:=(Y b (off+k))) hbg).trans gc;clear X hR xo;go_simp;exact⟨upd f 4 (.slice (some (Y b' qw)) es.length ce),by simp[upd,g3],dO (O xJ) 4 _ hn (by decide) rfl⟩
      | 5,D =>
       cases D;have hn:x[9]? = some false:=zS xo 12 5 9 (by kernel_rfl) hx (by simp) xA;clear X hR xo;go_simp;exact⟨upd f 5 (H j),by simp[upd],dO (O xJ) 5 _ hn (by decide) rfl⟩
      | 6,D =>
       cases D;have hn:x[9]? = some false:=zS xo 12 6 9 (by kernel_rfl) hx (by simp) xA;have g4:f 4 = .slice (some (Y b' qw)) es.length ce:=(Option.some.inj (hR.c hn 4 (yf X 4 rfl))).symm;have g5:f 5=H j:=(Option.some.inj (hR.c hn 5 (yf X 5 rfl))).symm;clear X hR xo;go_simp;exact⟨upd f 6 (h3 b' (qw+j*14)),by simp[upd,g4,g5],dO (O xJ) 6 _ hn (by decide) rfl⟩
      | 7,D =>
       cases D;have hn:x[9]? = some false:=zS xo 12 7 9 (by kernel_rfl) hx (by simp) xA;have g6:f 6=h3 b' (qw+j*14):=(Option.some.inj (hR.c hn 6 (yf X 6 rfl))).symm;have vH:=hR.b hn;obtain⟨e0,e1,e2,e3,e4,e5,e6,e7,e8,e9,vQ,vY,qq,qF⟩:=ev_cells (zf (O qT) vH oY);clear X hR xo;go_simp;exact⟨upd f 7 (.agg (yw e.kind e.cmd.k e.cmd.s e.cmd.t e.cmd.l e.cmd.q e.cmd.i e.cmd.p e.cmd.g e.id e.other e.qty e.price e.reason).toArray),by simp[upd,g6],dO (O xJ) 7 _ hn (by decide) rfl⟩
      | 8,D =>
       cases D;have hn:x[9]? = some false:=zS xo 12 8 9 (by kernel_rfl) hx (by simp) xA;have g0:f 0 = .agg #[H T.gr,H T.ac,H T.rf,H T.tr,H T.vo,H T.no,H T.li,H T.le]:=(Option.some.inj (hR.c hn 0 (yf X 0 rfl))).symm;have g7:f 7 = .agg (yw e.kind e.cmd.k e.cmd.s e.cmd.t e.cmd.l e.cmd.q e.cmd.i e.cmd.p e.cmd.g e.id e.other e.qty e.price e.reason).toArray:=(Option.some.inj (hR.c hn 7 (yf X 7 rfl))).symm;have vH:=hR.b hn;clear X hR xo;go_simp;refine(l04Count_any T e V).mono ?_;rintro r w4 ⟨rfl,xF⟩;exact⟨upd f 8 (.agg #[H (cntM T e).gr,H (cntM T e).ac,H (cntM T e).rf,H (cntM T e).tr,H (cntM T e).vo,H (cntM T e).no,H (cntM T e).li,H (cntM T e).le]),by simp[upd,g0,g7],dO (ry_grow (fun _ _ _ _ _ h=>h) (O xJ) hn xF) 8 _ hn (by decide) rfl⟩
      | 9,D =>
       cases D;have hn:x[9]? = some false:=xA;have g8:f 8 = .agg #[H (cntM T e).gr,H (cntM T e).ac,H (cntM T e).rf,H (cntM T e).tr,H (cntM T e).vo,H (cntM T e).no,H (cntM T e).li,H (cntM T e).le]:=(Option.some.inj (hR.c hn 8 (yf X 8 rfl))).symm;have vH:=hR.b hn;have xU:=zk (O ku).t vH (by omega);obtain⟨y0,z0,q0⟩:=zh xU (j:=0) (by omega);obtain⟨y1,z1,q1⟩:=zh xU (j:=1) (by omega);obtain⟨y2,z2,q2⟩:=zh xU (j:=2) (by omega);obtain⟨y3,z3,q3⟩:=zh xU (j:=3) (by omega);obtain⟨y4,z4,q4⟩:=zh xU (j:=4) (by omega);obtain⟨y5,z5,q5⟩:=zh xU (j:=5) (by omega);obtain⟨y6,z6,q6⟩:=zh xU (j:=6) (by omega);obtain⟨y7,z7,q7⟩:=zh xU (j:=7) (by omega);clear xU;clear X hR xo;go_simp;exact⟨f,by simp[g8],ry_writeN (O xJ) hn ⟨V,vH,rfl⟩⟩
      | i+10,D=>simp at D
    ·have hjl':¬ (j:Int)<es.length:=by omega
     rw[xa (by omega)] at ku;go_wp2_with fail
     try dsimp only[H,h3,Y,M,yk,yl,yw,yx,yy,yq,yr,me]
     go_roundw
     case rel=>exact⟨k+1,by omega,by go_num,by rw[O uM];exact O ku⟩
     case measure=>simp[intOf];omega
  ·have ux:¬ (k:Int)<gl.length:=by omega
   rw[xa (by omega)] at ue;go_wp2_with fail;refine O xw _ _ ?_;clear xw xK ux;generalize totG { tot0 with gr:=gl.length } gl=T at HTM ue;have ku:=U (O ue);clear ue;have k0:wr.cell? (yr w 0)=some (H next):=(O ku).k 0 _ rfl;have k1:wr.cell? (yr w 1)=some (.slice aq l.length cq):=(O ku).k 1 _ rfl;have kS:=U (l04Live_any next (.slice aq l.length cq) l wr (zq (O HR) (O ku).b yb));generalize livS l=LV at kS HTM;refine mg fun hb xw=>?_;go_wp2_with fail;refine(O kS).mono ?_;rintro r w4 ⟨rfl,xF⟩;clear k0 k1;have pp:=U (jt_below (O ku) xF);clear xF;obtain⟨y6,z6,q6⟩:=zh (O pp).t (j:=6) (by omega);obtain⟨y7,z7,q7⟩:=zh (O pp).t (j:=7) (by omega);go_wp2_with fail;refine O xw _ _ ?_;clear xw z6 q6 z7 q7;have jU:=U (jt_set (O pp) l.length LV);generalize (w4.setCell (Y (w.heap.size+1+1) 6) (H l.length)).setCell (Y (w.heap.size+1+1) 7) (H LV)=V at jU |-;obtain⟨uS,uR,uU,uV,uW,uT,uD,vk⟩:=T;simp only at HTM jU;have c0:V.cell? (Y (w.heap.size+1+1) 0)=some (H uS):=(O jU).r 0 _ rfl;obtain⟨y0,z0,q0⟩:=zh (O jU).o (j:=0) (by omega);have c1:V.cell? (Y (w.heap.size+1+1) 1)=some (H uR):=(O jU).r 1 _ rfl;obtain⟨y1,z1,q1⟩:=zh (O jU).o (j:=1) (by omega);have c2:V.cell? (Y (w.heap.size+1+1) 2)=some (H uU):=(O jU).r 2 _ rfl;obtain⟨y2,z2,q2⟩:=zh (O jU).o (j:=2) (by omega);have c3:V.cell? (Y (w.heap.size+1+1) 3)=some (H uV):=(O jU).r 3 _ rfl;obtain⟨y3,z3,q3⟩:=zh (O jU).o (j:=3) (by omega);have c4:V.cell? (Y (w.heap.size+1+1) 4)=some (H uW):=(O jU).r 4 _ rfl;obtain⟨y4,z4,q4⟩:=zh (O jU).o (j:=4) (by omega);have c5:V.cell? (Y (w.heap.size+1+1) 5)=some (H uT):=(O jU).r 5 _ rfl;obtain⟨y5,z5,q5⟩:=zh (O jU).o (j:=5) (by omega);have c6:V.cell? (Y (w.heap.size+1+1) 6)=some (H l.length):=(O jU).r 6 _ rfl;obtain⟨y6,z6,q6⟩:=zh (O jU).o (j:=6) (by omega);have c7:V.cell? (Y (w.heap.size+1+1) 7)=some (H LV):=(O jU).r 7 _ rfl;obtain⟨y7,z7,q7⟩:=zh (O jU).o (j:=7) (by omega);have vI:=U (yY V (w.heap.size+1) 0 [H uS,H uR,H uU,H uV,H uW,H uT,H l.length,H LV] (fun j hj=>(O jU).o j hj));have oP:=U (zj (w.heap.size+1) (by omega) [H uS,H uR,H uU,H uV,H uW,H uT,H l.length,H LV] 0 V (O jU).b);go_wp2_with fail;change bodyPost _ _ _ _ _ (V.setCells (w.heap.size+1) 0 [H uS,H uR,H uU,H uV,H uW,H uT,H l.length,H LV]);generalize V.setCells (w.heap.size+1) 0 [H uS,H uR,H uU,H uV,H uW,H uT,H l.length,H LV]=WE at vI oP |-;obtain⟨d0,d1,d2,d3,d4,d5,d6,d7⟩:=yE (O vI);refine bodyPost_ret (by simp[results,Tryz.results40,go_sem,d0,d1,d2,d3,d4,d5,d6,d7];try rfl) rfl ?_;exact⟨by rw[O HTM],O oP⟩
theorem run_fold:∀(cs:List Cm) (s:RunSt),s.t=s.g.foldl wgT tot0->(cs.foldl rstep s).t=(cs.foldl rstep s).g.foldl wgT tot0
 | [],s,h=>h
 | c::cs,s,h=>by
  rw[List.foldl_cons];refine run_fold cs _ ?_;show wgT s.t (stE s.n s.l c)=(s.g ++ [stE s.n s.l c]).foldl wgT tot0;rw[List.foldl_append,<- h];rfl
structure Al (t u:Tot):Prop where
 ac:t.ac=u.ac
 rf:t.rf=u.rf
 tr:t.tr=u.tr
 vo:t.vo=u.vo
 no:t.no=u.no
theorem al_cnt {t u:Tot}(e:Ev)(h:Al t u):Al (cntE t e) (cntM u e):=by
 obtain⟨Z,Q,I,h4,h5⟩:=h;unfold cntE cntM;split
 ·exact⟨by simp only[Z],Q,I,h4,h5⟩
 ·split
  ·exact⟨Z,by simp only[Q],I,h4,h5⟩
  ·split
   ·exact⟨Z,Q,by simp only[I],by simp only[h4],by simp only[h5]⟩
   ·split
    ·exact⟨Z,Q,I,h4,h5⟩
    ·exact⟨Z,Q,I,h4,h5⟩
theorem al_fold:∀(es:List Ev) {t u:Tot},Al t u->Al (es.foldl cntE t) (es.foldl cntM u)
 | [],_,_,h=>h
 | e::es,_,_,h=>al_fold es (al_cnt e h)
theorem cntE_rest (t:Tot)(e:Ev):(cntE t e).gr=t.gr/\(cntE t e).li=t.li/\(cntE t e).le=t.le:=by
 unfold cntE;split
 ·exact⟨rfl,rfl,rfl⟩
 ·split
  ·exact⟨rfl,rfl,rfl⟩
  ·split <;> exact⟨rfl,rfl,rfl⟩
theorem cntE_fold:∀(es:List Ev) (t:Tot),(es.foldl cntE t).gr=t.gr/\(es.foldl cntE t).li=t.li/\(es.foldl cntE t).le=t.le
 | [],_=>⟨rfl,rfl,rfl⟩
 | e::es,t=>by
  have Z:=cntE_fold es (cntE t e);have Q:=cntE_rest t e;exact⟨Z.1.trans Q.1,Z.2.1.trans Q.2.1,Z.2.2.trans Q.2.2⟩
theorem cntM_gr:∀(es:List Ev) (t:Tot),(es.foldl cntM t).gr=t.gr
 | [],_=>rfl
 | e::es,t=>by
  refine(cntM_gr es (cntM t e)).trans ?_;unfold cntM;split
  ·rfl
  ·split
   ·rfl
   ·split
    ·rfl
    ·split <;> rfl
theorem totG_gr:∀(gl:List (List Ev)) (t:Tot),(totG t gl).gr=t.gr
 | [],_=>rfl
 | es::gl,t=>(totG_gr gl (es.foldl cntM t)).trans (cntM_gr es t)
theorem wrap_few {x:Int}(h0:0<=x)(Z:x<=1000000):wrap64 x=x:=by unfold wrap64;omega
theorem wg_al:∀(gl:List (List Ev)) {t u:Tot},Al t u->0<=t.gr->t.gr+gl.length<=1000000->Al (gl.foldl wgT t) (totG u gl)/\(gl.foldl wgT t).gr=t.gr+gl.length/\(gl.foldl wgT t).li=t.li/\(gl.foldl wgT t).le=t.le
 | [],t,u,h,_,_=>⟨h,by simp,rfl,rfl⟩
 | es::gl,t,u,h,h0,Z=>by
  rw[List.length_cons] at Z;have hf:=cntE_fold es { t with gr:=wrap64 (t.gr+1) };have hw:wrap64 (t.gr+1)=t.gr+1:=wrap_few (by omega) (by omega);have F:(wgT t es).gr=t.gr+1:=hf.1.trans hw;have ha:Al (wgT t es) (es.foldl cntM u):=al_fold es ⟨h.ac,h.rf,h.tr,h.vo,h.no⟩;have ih:=wg_al gl ha (by omega) (by omega);refine⟨ih.1,?_,ih.2.2.1.trans hf.2.1,ih.2.2.2.trans hf.2.2⟩;have:=ih.2.1;rw[List.foldl_cons,this,List.length_cons];omega
theorem wb_fold:∀(l:List Od) (t:Tot) (n:Int),0<=t.li->t.li+l.length<=1000000->l.foldl cntO { t with le:=n } = { t with li:=t.li+l.length,le:=l.foldl (fun n o=>wrap64 (n+o.left)) n }
 | [],t,n,_,_=>by simp
 | o::l,t,n,h0,Z=>by
  rw[List.length_cons] at Z;have hw:wrap64 (t.li+1)=t.li+1:=wrap_few (by omega) (by omega);rw[List.foldl_cons,List.foldl_cons];have:=wb_fold l { t with li:=t.li+1 } (wrap64 (n+o.left)) (by show 0<=t.li+1;omega) (by show t.li+1 + _ <= _;omega);simp only at this;unfold cntO;simp only[hw];refine this.trans ?_;congr 1;rw[List.length_cons];omega
theorem tot_eq (cs:List Cm)(h:cs.length<=200):wbT (runS cs).t (runS cs).l=totM (runS cs).g (runS cs).l:=by
 have hI:=iu cs h;have hl:=hI.1.good.len;have hf:(runS cs).t=(runS cs).g.foldl wgT tot0:=run_fold cs _ rfl;generalize runS cs=s at hI hl hf |-;obtain⟨ha,F,hli,uJ⟩:=wg_al s.g (t:=tot0) (u:={ tot0 with gr:=s.g.length }) ⟨rfl,rfl,rfl,rfl,rfl⟩ (by show(0:Int)<=0;omega) (by show(0:Int) + _ <= _;omega);have uN:=totG_gr s.g { tot0 with gr:=s.g.length };rw[<- hf] at ha F hli uJ;unfold totM wbT;generalize totG { tot0 with gr:=s.g.length } s.g=yd at ha uN |-;have hw:=wb_fold s.l s.t 0 (by rw[hli];show(0:Int)<=0;omega) (by rw[hli];show(0:Int) + _ <= _;omega);have ht:{ s.t with le:=0 } = s.t:=by rw[show(0:Int)=s.t.le from uJ.symm]
 rw[ht] at hw;rw[hw];obtain⟨u1,u2,u3,u4,u5,u6,u7,u8⟩:=yd;generalize s.t=T at *;obtain⟨t1,t2,t3,t4,t5,t6,t7,t8⟩:=T;obtain⟨a1,a2,a3,a4,a5⟩:=ha;simp only[tot0] at *;simp only[Tot.mk.injEq];exact⟨by omega,a1,a2,a3,a4,a5,by omega,rfl⟩
end Go.Proofs.YtkofhemdefffpaaGreatDoor
