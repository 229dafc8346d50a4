/-.-/
import Derived.Test.YthhkapcbocgcoaaGreatDoorKj24
import Derived.Test.YthhkapcbocgcoaaGreatDoorKj28
set_option linter.unusedVariables false
set_option maxHeartbeats 6400000
set_option maxRecDepth 100000
namespace Go.Proofs.YthhkapcbocgcoaaGreatDoor
open Go.RowKit
theorem okS_sides {next:Int}{l:List Od}(h:okS next l=true):∀x∈l,x.side=1\/x.side=2:=by
 simp only[okS,xf,xg] at h;obtain⟨⟨⟨D,Y⟩,h4⟩,_⟩:=h;intro o Q;have:=iU h4 o Q;simp[ordB,betB] at this;omega
theorem iy (next:Int)(vb:Value)(l:List Od)(c:Cm)(w:World)(hr:RdR Od.vs 6 w vb l)(hs:SlOk vb)(X:GoodL l)(uX:∀x∈l,x.side=1\/x.side=2)(ht:c.g.size<=maxLen) :
  Calls Tryz.prog 35 #[.agg #[H next,vb],cmV c] w fun e w'=>e = .returned (H (refS next l c))/\yn w w':=by
 have HNW:=Z (fun W hW=>l04New_any next vb l c W hW hs X uX ht);have qr:=Z (fun W=>l04Form_any c W);have hlen20:=X.len;generalize jP:refS next l c=res;have uK:=Z jP.symm;generalize hnr:newR next l c=nr at HNW;have oX:=Z hnr;clear X uX ht jP hnr;obtain⟨kk,s,ty,li,qt,ii,pr,tg⟩:=c;unfold cmV at HNW qr |-;simp only at HNW qr |-;have HR:=Z hr;have jg:=Z hs;obtain⟨a,cap,rfl,xC,hc⟩:=hr
 have xt:∀(k:Nat) (c:Od),l[k]? = some c->∃b off,a=some (J b off)/\b<w.heap.size/\w.rangeAt b (off+k*6) c.vs:=by
  intro k c hk;obtain⟨b,off,D,Y,h3⟩:=hc (by intro h;rw[h] at hk;simp at hk);exact⟨b,off,D,Y,h3 k c hk⟩
 have HC:=Z xt;clear xt hc xC hs;have xJ:=zf w (mq #[H next,.slice a l.length cap] 27);have ug:((w.alloc (mq #[H next,.slice a l.length cap] 27)).alloc (mq (yx kk s ty li qt ii pr tg).toArray 33)).heap.size=w.heap.size+1+1:=by rw[zf,xJ]
 have r1:=zm w [H next,.slice a l.length cap] 27;have r2:=zm (w.alloc (mq #[H next,.slice a l.length cap] 27)) (yx kk s ty li qt ii pr tg) 33;rw[xJ] at r2;have qH:Below (w.heap.size+1) (w.alloc (mq #[H next,.slice a l.length cap] 27)) ((w.alloc (mq #[H next,.slice a l.length cap] 27)).alloc (mq (yx kk s ty li qt ii pr tg).toArray 33)):=(Below.refl _ _).alloc (by rw[xJ];omega) _;have xv:Hid (yn w ((w.alloc (mq #[H next,.slice a l.length cap] 27)).alloc (mq (yx kk s ty li qt ii pr tg).toArray 33))):=(mn _ _).alloc (by rw[xJ];omega) _;have HX:Hid (_/\_):=⟨zc r1 qH (by omega),r2⟩;have uy:Hid (w.heap.size+1<((w.alloc (mq #[H next,.slice a l.length cap] 27)).alloc (mq (yx kk s ty li qt ii pr tg).toArray 33)).heap.size):=by show _ < _;omega
 clear xJ ug r1 r2 qH;go_enter Tryz.func35,Tryz.ntmps35;refine ms fun mR xE=>?_;go_wp2_with fail;refine U xE _ _ ?_;clear xE;generalize ((w.alloc (mq #[H next,.slice a l.length cap] 27)).alloc (mq (yx kk s ty li qt ii pr tg).toArray 33))=X2 at xv HX uy |-;have HX:Hid (X2.rangeAt w.heap.size 0 [H next,.slice a l.length cap]/\X2.rangeAt (w.heap.size+1) 0 (yx kk s ty li qt ii pr tg)):=U HX;have k0:X2.cell? (J w.heap.size 0)=some (H next):=(U HX).1 0 _ rfl;have k1:X2.cell? (J w.heap.size 1)=some (.slice a l.length cap):=(U HX).1 1 _ rfl;obtain⟨o0,o1,o2,o3,o4,o5,o6,o7⟩:=yE (U HX).2;cases bk:betB kk 1 4
 ·have HK:Hid (res=1):=(U uK).trans (by simp[refS,bk]);go_wp2_with (first|(go_at_call 31;refine(fq _ _ _ _).mono ?_;rintro e w' ⟨rfl,uq⟩;rw[uq];clear uq w'));go_ret;exact⟨zB (U HK).symm,U xv⟩
 go_wp2_with (first|(go_at_call 31;refine(fq _ _ _ _).mono ?_;rintro e w' ⟨rfl,uq⟩;rw[uq];clear uq w'));refine(U qr _).mono ?_;cases bf:ej ⟨kk,s,ty,li,qt,ii,pr,tg⟩
 ·rintro e w3 ⟨rfl,xL⟩;have xI:=Z (mr (U xv) xL);have HK:Hid (res=2):=(U uK).trans (by simp[refS,bk,bf]);clear xL bf bk;go_wp2_with fail;go_ret;exact⟨zB (U HK).symm,U xI⟩
 rintro e w3 ⟨rfl,xL⟩;have xI:=Z (mr (U xv) xL);have uT:Hid (w3.rangeAt w.heap.size 0 [H next,.slice a l.length cap]/\w3.rangeAt (w.heap.size+1) 0 (yx kk s ty li qt ii pr tg)):=⟨zc (U HX).1 xL (by have:=U uy;omega),zc (U HX).2 xL (U uy)⟩;have hl3:w.heap.size+1<w3.heap.size:=yK (U uy) xL.size;clear xL HX xv uy;clear k0 k1 o0 o1 o2 o3 o4 o5 o6 o7;have k0:w3.cell? (J w.heap.size 0)=some (H next):=(U uT).1 0 _ rfl;have k1:w3.cell? (J w.heap.size 1)=some (.slice a l.length cap):=(U uT).1 1 _ rfl;obtain⟨o0,o1,o2,o3,o4,o5,o6,o7⟩:=yE (U uT).2
 by_cases D:kk=1
 ·subst D;have HK:Hid (res=nr):=(U uK).trans (by rw[<- U oX];simp[refS,bk,bf]);clear bk bf uK oX;go_wp2_with fail;refine(U HNW w3 (zi (U HR) (U xI) ya)).mono ?_;rintro e w4 ⟨rfl,xy⟩;have xF:=Z (mr (U xI) xy);clear xy;go_wp2_with fail;go_ret;exact⟨zB (U HK).symm,U xF⟩
 by_cases h4:kk=4
 ·subst h4;have HK:Hid (res=0):=(U uK).trans (by simp[refS,bk,bf]);clear bk bf uK oX;go_wp2_with fail;go_ret;exact⟨zB (U HK).symm,U xI⟩
 have b1:(kk==1)=false:=by rw[xe];exact D
 have b4:(kk==4)=false:=by rw[xe];exact h4
 by_cases h3:kk=3
 ·subst h3;cases bq:betB qt 1 1000000
  ·have HK:Hid (res=7):=(U uK).trans (by simp[refS,bk,bf,bq]);clear bk bf uK oX;go_wp2_with (first|(go_at_call 31;refine(fq _ _ _ _).mono ?_;rintro e w' ⟨rfl,uq⟩;rw[uq];clear uq w'));go_ret;exact⟨zB (U HK).symm,U xI⟩
  have HRF:Hid (res=if plc l ii<0 then 9 else match l[(plc l ii).toNat]? with|some o=>if o.left<=qt then 10 else 0|none=>0):=(U uK).trans (by simp[refS,bk,bf,bq];cases l[(plc l ii).toNat]? <;> rfl)
  clear bk bf uK oX D h4;go_wp2_with (first|(go_at_call 31;refine(fq _ _ _ _).mono ?_;rintro e w' ⟨rfl,uq⟩;rw[uq];clear uq w'));refine(fV _ l ii w3 (zi (U HR) (U xI) ya)).mono ?_;rintro e w4 ⟨rfl,xy⟩;have xF:=Z (mr (U xI) xy);have xH:Hid (w4.rangeAt w.heap.size 0 [H next,.slice a l.length cap]/\w4.rangeAt (w.heap.size+1) 0 (yx 3 s ty li qt ii pr tg)):=⟨zc (U uT).1 xy (by omega),zc (U uT).2 xy hl3⟩;clear xy;clear k0 k1 o0 o1 o2 o3 o4 o5 o6 o7;have k0:w4.cell? (J w.heap.size 0)=some (H next):=(U xH).1 0 _ rfl;have k1:w4.cell? (J w.heap.size 1)=some (.slice a l.length cap):=(U xH).1 1 _ rfl;obtain⟨o0,o1,o2,o3,o4,o5,o6,o7⟩:=yE (U xH).2;rcases lq l ii with e|⟨k,o,e,Q⟩
  ·have HK:Hid (res=9):=(U HRF).trans (by rw[e];rfl);rw[e];clear e;go_wp2_with fail;go_ret;exact⟨zB (U HK).symm,U xF⟩
  ·have HRF:Hid (res=if o.left<=qt then 10 else 0):=(U HRF).trans (by rw[e,if_neg (by omega)];simp[Q])
   obtain⟨b,off,rfl,E,xn⟩:=U HC k o Q;have oE:=(yH.1 Q).1;have c3:w4.cell? (J b (off+k*6+3))=some (H o.left):=zc xn (U xF) E 3 _ rfl;have aC:(k:Int)<l.length:=by omega
   have oT:(0:Int)<=k:=by omega
   have hkn:¬ (k:Int)<0:=by omega
   rw[e];clear e Q xn E oE
   by_cases hq:o.left<=qt
   ·have HK:Hid (res=10):=(U HRF).trans (if_pos hq);have hq':decide (o.left<=qt)=true:=by simpa using hq
    go_wp2_with fail;go_quiet (fail);go_wp2_with fail;go_ret;exact⟨zB (U HK).symm,zR (U xF) _⟩
   ·have HK:Hid (res=0):=(U HRF).trans (if_neg hq);have hq':decide (o.left<=qt)=false:=by simpa using hq
    go_wp2_with fail;go_quiet (fail);go_wp2_with fail;go_ret;exact⟨zB (U HK).symm,zR (U xF) _⟩
 ·have b3:(kk==3)=false:=by rw[xe];exact h3
  have HRF:Hid (res=if plc l ii<0 then 9 else 0):=(U uK).trans (by
   have hx:¬ (kk=3/\betB qt 1 1000000=false):=fun h=>h3 h.1;have hy:∀o:Od,¬ (kk=3/\o.left<=qt):=fun o h=>h3 h.1;simp only[refS];rw[if_neg (by rw[bk];simp),if_neg (by rw[bf];simp),if_neg D,if_neg h4,if_neg hx]
   by_cases hp:plc l ii<0
   ·rw[if_pos hp,if_pos hp]
   ·rw[if_neg hp,if_neg hp];cases l[(plc l ii).toNat]? with
    | none=>rfl
    | some o=>exact if_neg (hy o))
  clear bk bf uK oX D h4 h3;go_wp2_with fail;refine(fV _ l ii w3 (zi (U HR) (U xI) ya)).mono ?_;rintro e w4 ⟨rfl,xy⟩;have xF:=Z (mr (U xI) xy);have xH:Hid (w4.rangeAt w.heap.size 0 [H next,.slice a l.length cap]/\w4.rangeAt (w.heap.size+1) 0 (yx kk s ty li qt ii pr tg)):=⟨zc (U uT).1 xy (by omega),zc (U uT).2 xy hl3⟩;clear xy;clear k0 k1 o0 o1 o2 o3 o4 o5 o6 o7;have k0:w4.cell? (J w.heap.size 0)=some (H next):=(U xH).1 0 _ rfl;have k1:w4.cell? (J w.heap.size 1)=some (.slice a l.length cap):=(U xH).1 1 _ rfl;obtain⟨o0,o1,o2,o3,o4,o5,o6,o7⟩:=yE (U xH).2
  by_cases hp:plc l ii<0
  ·have HK:Hid (res=9):=(U HRF).trans (if_pos hp);go_wp2_with fail;go_ret;exact⟨zB (U HK).symm,U xF⟩
  ·have HK:Hid (res=0):=(U HRF).trans (if_neg hp);have hp':decide (plc l ii<0)=false:=by simpa using hp
   go_wp2_with fail;go_quiet (fail);go_wp2_with fail;go_ret;exact⟨zB (U HK).symm,zR (U xF) _⟩
def msV (vl vd va:Value)(g:Gr)(t:Od)(kd n0:Int):List Value:=[H g.nx,vl,H t.id,H t.side,H t.ticks,H t.left,H t.life,yk t.tag,H kd,.bool (g.bg != 0),vd,H n0,va]
def DyT (W:World)(b:Nat):Prop:=∃xA,W.heap[b]? = some (.cells xA 65 (0,0))
structure MS (cl B:Nat) (W:World) (vl vd va:Value) (g:Gr) (t:Od) (kd n0:Int) (dy l0:List Od):Prop where
 box:Bx W cl (msV vl vd va g t kd n0)
 row:ORow W B vl g.l
 days:RdR Od.vs 6 W vd dy
 ahd:RdR Od.vs 6 W va l0
 sla:SlOk va
 typ:∃cur,W.heap[cl]? = some (.cells cur 74 (0,0))
 hO:B<=cl
 eqd:g.bg=0->n0=g.nx/\l0=g.l/\vd = .slice none 0 0
 ndc:dy ≠ []->∀b off n c,vd = .slice (some ⟨b,off,none⟩) n c->b≠cl/\n<=c
 na:l0 ≠ []->∀b off n c,va = .slice (some ⟨b,off,none⟩) n c->b<B
 dyt:dy ≠ []->∀b off n c,vd = .slice (some ⟨b,off,none⟩) n c->DyT W b
section
variable {cl B:Nat} {w W W':World} {vl vd va:Value} {g g':Gr} {t t':Od} {kd kd' n0:Int} {dy l0:List Od}
theorem MS.lt (h:MS cl B W vl vd va g t kd n0 dy l0):cl<W.heap.size:=by
 obtain⟨xA,hc⟩:=h.typ;exact(yZ.1 hc).1
theorem MS.eqn (h:MS cl B W vl vd va g t kd n0 dy l0)(E:g.bg=0):n0=g.nx/\l0=g.l:=⟨(h.eqd E).1,(h.eqd E).2.1⟩
theorem MS.nd (h:MS cl B W vl vd va g t kd n0 dy l0)(hd:dy ≠ [])(b off n c:Nat)(e:vd = .slice (some (J b off)) n c):b≠cl:=(h.ndc hd b off n c e).1
theorem MS.base (h:MS cl B W vl vd va g t kd n0 dy l0):B<=W.heap.size:=yO h.hO (Nat.le_of_lt h.lt)
theorem MS.nl (h:MS cl B W vl vd va g t kd n0 dy l0):some cl≠vl.ownBlock:=fC h.row h.typ (by decide)
theorem dyT_blk {b:Nat}(h:DyT W b)(E:W'.heap[b]? = W.heap[b]?):DyT W' b:=by obtain⟨xA,hc⟩:=h;exact⟨xA,E.trans hc⟩
theorem dyT_lt {b:Nat}(h:DyT W b):b<W.heap.size:=by obtain⟨xA,hc⟩:=h;exact(yZ.1 hc).1
theorem zy (h:MS cl B W vl vd va g t kd n0 dy l0)(E:yn W W'):MS cl B W' vl vd va g t kd n0 dy l0:=
 ⟨zg h.box E h.lt,zt h.row E,zi h.days E ya,zi h.ahd E ya,h.sla,by obtain⟨xA,hc⟩:=h.typ;exact⟨xA,(E.block cl h.lt).trans hc⟩,h.hO,h.eqd,h.ndc,h.na,fun hd b off n c e=>dyT_blk (h.dyt hd b off n c e) (E.block b (dyT_lt (h.dyt hd b off n c e)))⟩
theorem gO {l:List Od}{v:Value}{b:Nat}{us:List Value}{o:Nat}(h:RdR Od.vs 6 W v l)(hn:l ≠ []->∀b' off n c,v = .slice (some (J b' off)) n c->b'≠b):RdR Od.vs 6 (W.setCells b o us) v l:=by
 obtain⟨a,cap,rfl,hl,hc⟩:=h;refine⟨a,cap,rfl,hl,fun xr=>?_⟩;obtain⟨b',off,rfl,E,xn⟩:=hc xr;have hbn:=hn xr b' off _ _ rfl;have oB:=et b b' hbn us o W;refine⟨b',off,rfl,?_,fun j c hj i u hi=>?_⟩
 ·by_cases xM:b'<(W.setCells b o us).heap.size
  ·exact xM
  ·exfalso;rw[Array.getElem?_eq_none (by omega),Array.getElem?_eq_getElem E] at oB;cases oB
 ·rw[yR (a:=(J b' (off+j*6+i))) oB];exact xn j c hj i u hi
theorem fu (h:MS cl B W vl vd va g t kd n0 dy l0)(o:Nat)(us:List Value)(hl:o+us.length<=13)(he:msV vl vd va g' t' kd' n0=(msV vl vd va g t kd n0).take o++us++(msV vl vd va g t kd n0).drop (o+us.length))(hll:g'.l=g.l)(hq:g'.bg=0->n0=g'.nx/\l0=g'.l/\vd = .slice none 0 0):MS cl B (W.setCells cl o us) vl vd va g' t' kd' n0 dy l0:=
 ⟨by rw[he];exact bx_setAt us o W _ h.box hl,by rw[hll];exact gQ h.nl us o W h.row,gO h.days h.nd,gO h.ahd (fun xr b' off n c e=>by have:=h.na xr b' off n c e;have:=h.hO;omega),h.sla,iH us o W h.typ,h.hO,hq,h.ndc,h.na,fun hd b off n c e=>dyT_blk (h.dyt hd b off n c e) (et cl b (h.nd hd b off n c e) us o W)⟩
structure KO (cl:Nat) (ob:Option Nat) (w w':World):Prop where
 os:w'.os=w.os
 tape:w'.tape=w.tape
 output:w'.output=w.output
 size:w.heap.size<=w'.heap.size
 block:∀k,k<w.heap.size->k≠cl->some k≠ob->w'.heap[k]? = w.heap[k]?
theorem ko_of {ob:Option Nat}(h:yn w W):KO cl ob w W:=⟨h.os,h.tape,h.output,h.size,fun k hk _ _=>h.block k hk⟩
theorem ij {ob:Option Nat}(h:KO cl ob w W)(E:yn W W'):KO cl ob w W':=
 ⟨E.os.trans h.os,E.tape.trans h.tape,E.output.trans h.output,yO h.size E.size,fun k hk D Y=>(E.block k (yK hk h.size)).trans (h.block k hk D Y)⟩
theorem eC {ob:Option Nat}:∀ {W:World} (h:KO cl ob w W) (o:Nat) (us:List Value),KO cl ob w (W.setCells cl o us)
 | _,h,_,[]=>h
 | W,h,o,u::us=>by
  rw[World.setCells];exact eC (W:=W.setCell (J cl o) u) ⟨h.os,h.tape,h.output,by have:=h.size;simpa[World.setCell] using this,fun k hk D Y=>(yT _ _ _ _ D).trans (h.block k hk D Y)⟩ (o+1) us
theorem ko_row {ob:Option Nat}{b:Nat}(h:KO cl ob w W)(X:W.grownBy W' (some b))(E:ob=some b):KO cl ob w W':=
 ⟨X.os.trans h.os,X.tape.trans h.tape,X.output.trans h.output,yO h.size X.size,fun k hk D Y=>(X.block k (yK hk h.size) (by rw[<- E];exact Y)).trans (h.block k hk D Y)⟩
theorem ko_far {ob:Option Nat}{v:Value}(h:KO cl ob w W)(X:W.grownBy W' v.ownBlock)(hv:∀k,v.ownBlock=some k->w.heap.size<=k):KO cl ob w W':=
 ⟨X.os.trans h.os,X.tape.trans h.tape,X.output.trans h.output,yO h.size X.size,fun k hk D Y=>(X.block k (yK hk h.size) (fun e=>by have:=hv k e.symm;omega)).trans (h.block k hk D Y)⟩
theorem ko_below (h:KO cl vl.ownBlock w W)(hm:MS cl B w vl vd va g t kd n0 dy l0):Below B w W:=
 ⟨h.os,h.tape,h.output,h.size,fun k hk=>h.block k (yK hk hm.base) (by have:=hm.hO;omega) (fun e=>by have:=(hm.row.lt k e.symm).1;omega)⟩
end
def TakE (cl B:Nat)(va:Value)(n0:Int)(l0:List Od)(g:Gr)(t:Od)(kd:Int)(dy:List Od)(e:Ev)(w:World)(x:Ending)(w':World):Prop:=x = .returned (.tuple #[])/\Below B w w'/\∃vO vi,MS cl B w' vO vi va (dQ g e) (tkM g t e) (kdM kd e) n0 (dyM g dy e) l0
def TakK (cl B:Nat)(ob:Option Nat)(va:Value)(n0:Int)(l0:List Od)(g:Gr)(t:Od)(kd:Int)(dy:List Od)(e:Ev)(w:World)(x:Ending)(w':World):Prop:=x = .returned (.tuple #[])/\KO cl ob w w'/\∃vO vi,MS cl B w' vO vi va (dQ g e) (tkM g t e) (kdM kd e) n0 (dyM g dy e) l0
theorem take_2 {cl B:Nat}{vl vd va:Value}{g:Gr}{t:Od}{kd n0:Int}{dy l0:List Od}(ck F ct O cq ci:Int)(cp:Nat)(cg:ByteArray)(id xj qty xk xh:Int)(w:World)(h:MS cl B w vl vd va g t kd n0 dy l0)(hi:GI g)(hm:MR g t kd dy)(he:okE ⟨2,⟨ck,F,ct,O,cq,ci,cp,cg⟩,id,xj,qty,xk,xh⟩=true)(hr:zE g ⟨2,⟨ck,F,ct,O,cq,ci,cp,cg⟩,id,xj,qty,xk,xh⟩=0):Calls Tryz.prog 60 #[I cl 0,.agg (yv 2 ck F ct O cq ci cp cg id xj qty xk xh).toArray] w fun x w'=>TakK cl B vl.ownBlock va n0 l0 g t kd dy ⟨2,⟨ck,F,ct,O,cq,ci,cp,cg⟩,id,xj,qty,xk,xh⟩ w x w':=by
 generalize jX:vl.ownBlock=ob;have HOB:=Z jX;clear jX;have hsf:=sfl;have hO:=h.lt;have jl:=h.base;have jh:Hid (∀w' vO vi,KO cl ob w w'->MS cl B w' vO vi va (dQ g ⟨2,⟨ck,F,ct,O,cq,ci,cp,cg⟩,id,xj,qty,xk,xh⟩) (tkM g t ⟨2,⟨ck,F,ct,O,cq,ci,cp,cg⟩,id,xj,qty,xk,xh⟩) (kdM kd ⟨2,⟨ck,F,ct,O,cq,ci,cp,cg⟩,id,xj,qty,xk,xh⟩) n0 (dyM g dy ⟨2,⟨ck,F,ct,O,cq,ci,cp,cg⟩,id,xj,qty,xk,xh⟩) l0->TakK cl B ob va n0 l0 g t kd dy ⟨2,⟨ck,F,ct,O,cq,ci,cp,cg⟩,id,xj,qty,xk,xh⟩ w (.returned (.tuple #[])) w'):=fun w' vO vi D Y=>⟨rfl,D,vO,vi,Y⟩;have h0:=rule2 (e:=⟨2,⟨ck,F,ct,O,cq,ci,cp,cg⟩,id,xj,qty,xk,xh⟩) rfl hr;have uj:Hid (dQ g ⟨2,⟨ck,F,ct,O,cq,ci,cp,cg⟩,id,xj,qty,xk,xh⟩ = { g with bg:=2 }):=by show _ = _;rw[step2 rfl];simp only[begG,if_pos h0]
 have un:Hid (tkM g t ⟨2,⟨ck,F,ct,O,cq,ci,cp,cg⟩,id,xj,qty,xk,xh⟩=t/\kdM kd ⟨2,⟨ck,F,ct,O,cq,ci,cp,cg⟩,id,xj,qty,xk,xh⟩=kd/\dyM g dy ⟨2,⟨ck,F,ct,O,cq,ci,cp,cg⟩,id,xj,qty,xk,xh⟩=dy):=⟨rfl,rfl,rfl⟩;generalize TakK cl B ob va n0 l0 g t kd dy ⟨2,⟨ck,F,ct,O,cq,ci,cp,cg⟩,id,xj,qty,xk,xh⟩ w=C at jh |-;obtain⟨xD,HX⟩:=mu w (yv 2 ck F ct O cq ci cp cg id xj qty xk xh) 37;have HM:=Z (zy h xD);have HB:Hid (KO cl ob w (w.alloc (mq (yv 2 ck F ct O cq ci cp cg id xj qty xk xh).toArray 37))):=ko_of xD;clear h xD hi hm he hr;go_enter Tryz.func60,Tryz.ntmps60;refine ms fun mR HK=>?_;go_wp2_with fail;refine U HK _ _ ?_;clear HK;generalize (w.alloc (mq (yv 2 ck F ct O cq ci cp cg id xj qty xk xh).toArray 37))=W1 at HX HM HB |-;have c9:=A (U HM).box 9 rfl;have q9:=zd (U HM).box 9 (by show 9<13;decide);have xv:Hid (KO cl ob w (World.setCells W1 cl 9 [.bool true])):=eC (U HB) 9 _;have xV:Hid (MS cl B (World.setCells W1 cl 9 [.bool true]) vl vd va { g with bg:=2 } t kd n0 dy l0):=fu (U HM) 9 [.bool true] (by simp) rfl rfl (fun h=>absurd (show(2:Int)=0 from h) (by decide));have e0:(World.setCells W1 cl 9 [.bool true]).cell? (J w.heap.size 0)=some (H 2):=A (dU (U HX) (et cl w.heap.size (by omega) _ 9 W1)) 0 rfl;simp only[World.setCells] at e0;go_wp2_with fail;go_end0;refine U jh _ vl vd (U xv) ?_;rw[U uj,(U un).1,(U un).2.1,(U un).2.2];exact U xV
theorem take_5 {cl B:Nat}{vl vd va:Value}{g:Gr}{t:Od}{kd n0:Int}{dy l0:List Od}(ck F ct O cq ci:Int)(cp:Nat)(cg:ByteArray)(id xj qty xk xh:Int)(w:World)(h:MS cl B w vl vd va g t kd n0 dy l0)(hi:GI g)(hm:MR g t kd dy)(he:okE ⟨5,⟨ck,F,ct,O,cq,ci,cp,cg⟩,id,xj,qty,xk,xh⟩=true)(hr:zE g ⟨5,⟨ck,F,ct,O,cq,ci,cp,cg⟩,id,xj,qty,xk,xh⟩=0):Calls Tryz.prog 60 #[I cl 0,.agg (yv 5 ck F ct O cq ci cp cg id xj qty xk xh).toArray] w fun x w'=>TakK cl B vl.ownBlock va n0 l0 g t kd dy ⟨5,⟨ck,F,ct,O,cq,ci,cp,cg⟩,id,xj,qty,xk,xh⟩ w x w':=by
 generalize jX:vl.ownBlock=ob;have HOB:=Z jX;clear jX;have hsf:=sfl;have hO:=h.lt;have jl:=h.base;have jh:Hid (∀w' vO vi,KO cl ob w w'->MS cl B w' vO vi va (dQ g ⟨5,⟨ck,F,ct,O,cq,ci,cp,cg⟩,id,xj,qty,xk,xh⟩) (tkM g t ⟨5,⟨ck,F,ct,O,cq,ci,cp,cg⟩,id,xj,qty,xk,xh⟩) (kdM kd ⟨5,⟨ck,F,ct,O,cq,ci,cp,cg⟩,id,xj,qty,xk,xh⟩) n0 (dyM g dy ⟨5,⟨ck,F,ct,O,cq,ci,cp,cg⟩,id,xj,qty,xk,xh⟩) l0->TakK cl B ob va n0 l0 g t kd dy ⟨5,⟨ck,F,ct,O,cq,ci,cp,cg⟩,id,xj,qty,xk,xh⟩ w (.returned (.tuple #[])) w'):=fun w' vO vi D Y=>⟨rfl,D,vO,vi,Y⟩;have h0:=(rule45 (e:=⟨5,⟨ck,F,ct,O,cq,ci,cp,cg⟩,id,xj,qty,xk,xh⟩) (.inr rfl) hr).1;have uj:Hid (dQ g ⟨5,⟨ck,F,ct,O,cq,ci,cp,cg⟩,id,xj,qty,xk,xh⟩ = { g with tk:={ g.tk with left:=0 } }):=by show _ = _;rw[step5 rfl];simp only[begG];rw[if_neg (by omega)]
 have un:Hid (tkM g t ⟨5,⟨ck,F,ct,O,cq,ci,cp,cg⟩,id,xj,qty,xk,xh⟩=zOd/\kdM kd ⟨5,⟨ck,F,ct,O,cq,ci,cp,cg⟩,id,xj,qty,xk,xh⟩=kd/\dyM g dy ⟨5,⟨ck,F,ct,O,cq,ci,cp,cg⟩,id,xj,qty,xk,xh⟩=dy):=⟨rfl,rfl,rfl⟩;have hbn:(g.bg != 0)=true:=by simp[h0]
 have bX:Hid (g.bg≠0):=by show _ ≠ _;omega
 clear h0;generalize TakK cl B ob va n0 l0 g t kd dy ⟨5,⟨ck,F,ct,O,cq,ci,cp,cg⟩,id,xj,qty,xk,xh⟩ w=C at jh |-;obtain⟨xD,HX⟩:=mu w (yv 5 ck F ct O cq ci cp cg id xj qty xk xh) 37;have HM:=Z (zy h xD);have HB:Hid (KO cl ob w (w.alloc (mq (yv 5 ck F ct O cq ci cp cg id xj qty xk xh).toArray 37))):=ko_of xD;clear h xD hi hm he hr;go_enter Tryz.func60,Tryz.ntmps60;refine ms fun mR HK=>?_;go_wp2_with fail;refine U HK _ _ ?_;clear HK;generalize (w.alloc (mq (yv 5 ck F ct O cq ci cp cg id xj qty xk xh).toArray 37))=W1 at HX HM HB |-;have c9:=A (U HM).box 9 rfl;have q9:=zd (U HM).box 9 (by show 9<13;decide);have xv:Hid (KO cl ob w (World.setCells W1 cl 9 [.bool true])):=eC (U HB) 9 _;have xV:Hid (MS cl B (World.setCells W1 cl 9 [.bool true]) vl vd va g t kd n0 dy l0):=fu (U HM) 9 [.bool true] (by simp) (by simp[msV,hbn]) rfl (fun h=>absurd h (U bX));have e0:(World.setCells W1 cl 9 [.bool true]).cell? (J w.heap.size 0)=some (H 5):=A (dU (U HX) (et cl w.heap.size (by omega) _ 9 W1)) 0 rfl;clear hbn HX HM HB;refine ms fun mR HK=>?_;go_wp2_with fail;refine U HK _ _ ?_;clear HK;change Code.wp _ _ _ _ (World.setCells W1 cl 9 [.bool true]);generalize World.setCells W1 cl 9 [.bool true]=hg at xv xV e0 |-;have c2:=A (U xV).box 2 rfl;have q2:=zd (U xV).box 2 (by show 2<13;decide);have c3:=A (U xV).box 3 rfl;have q3:=zd (U xV).box 3 (by show 3<13;decide);have c4:=A (U xV).box 4 rfl;have q4:=zd (U xV).box 4 (by show 4<13;decide);have c5:=A (U xV).box 5 rfl;have q5:=zd (U xV).box 5 (by show 5<13;decide);have c6:=A (U xV).box 6 rfl;have q6:=zd (U xV).box 6 (by show 6<13;decide);have c7:=A (U xV).box 7 rfl;have q7:=zd (U xV).box 7 (by show 7<13;decide);go_wp2_with fail;go_end0;refine U jh _ vl vd (eC (U xv) 2 (yw 0 0 0 0 0 ⟨#[]⟩)) ?_;rw[U uj,(U un).1,(U un).2.1,(U un).2.2];exact fu (U xV) 2 (yw 0 0 0 0 0 ⟨#[]⟩) (by simp) rfl rfl (fun h=>absurd h (U bX))
end Go.Proofs.YthhkapcbocgcoaaGreatDoor
