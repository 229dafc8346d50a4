/-.-/
import Derived.Test.YthhkapcbocgcoaaGreatDoorKj44
set_option linter.unusedVariables false
set_option maxHeartbeats 6400000
set_option maxRecDepth 100000
namespace Go.Proofs.YthhkapcbocgcoaaGreatDoor
open Go.RowKit
structure OkB (n:Int) (l:List Od):Prop where
 n1:1<=n
 n2:n<=1000000
 len:l.length<=20
 ord:∀o∈l,ordB o=true
 rise:eo l
 id0:∀o∈l,0<o.id
 ids:∀o∈l,o.id<n
 lev:nlev l<=8
 nox:∀a∈l,a.side=1->∀b∈l,b.side=2->a.ticks<b.ticks
theorem ord_left {o:Od}(h:ordB o=true):0<o.left/\o.left<=1000000:=by
 simp[ordB,betB] at h;omega
theorem okB_good {n:Int}{l:List Od}(h:OkB n l):GoodL l:=⟨h.len,fun o Q=>ord_left (h.ord o Q),h.rise⟩

def BSd (B:Nat)(W0:World)(v:Value)(l:List Int)(m0:Int)(n:Nat)(W:World):Prop:=∃m',m'<=m0+3*(n:Int)/\zP B W0 v l m' W
theorem gB {B:Nat}{W0 W:World}{v:Value}{l:List Int}{m0:Int}{n:Nat}(h:BSd B W0 v l m0 n W):BSd B W0 v l m0 (n+1) W:=by
 obtain⟨m',D,Y⟩:=h;exact⟨m',by omega,Y⟩
theorem bsd_call {B:Nat}{W0 W W':World}{v:Value}{l:List Int}{m0 m':Int}{n:Nat}(D:m'<=m0+3*(n:Int))(Y:zP B W0 v l m' W)(h:zP B W v l (m'+3) W'):BSd B W0 v l m0 (n+1) W':=
 ⟨m'+3,by omega,h.1,zw Y.2 h.2⟩
theorem bsd_alloc {B:Nat}{W0 W:World}{v:Value}{l:List Int}{m0:Int}{n:Nat}(h:BSd B W0 v l m0 n W)(o:Obj):BSd B W0 v l m0 (n+1) (W.alloc o):=by
 obtain⟨m',D,Y⟩:=h;exact⟨m',by omega,fD Y o⟩
structure DrP (B pt:Nat) (w:World) (v:Value) (l:List Int) (m:Int) (c:Cm) (V:World):Prop where
 dc:DrC B w.heap.size w v l m V
 r:V.rangeAt pt 0 c.vs
 t:V.there pt 0 8
 lt:pt<V.heap.size
theorem drP_more {B pt:Nat}{w V:World}{v:Value}{l:List Int}{m m':Int}{c:Cm}(h:DrP B pt w v l m c V)(hm:m<=m'):DrP B pt w v l m' c V:=
 ⟨⟨⟨eH h.dc.e.1 hm,h.dc.e.2⟩,h.dc.t⟩,h.r,h.t,h.lt⟩
theorem drP_step {B pt:Nat}{w V V':World}{v:Value}{l:List Int}{m m':Int}{c:Cm}(h:DrP B pt w v l m c V)(hB:B<w.heap.size)(hp:w.heap.size<pt)(hE:zP B V v l m' V'):DrP B pt w v l m' c V':=
 ⟨fE h.dc hB hE (by have:=h.lt;omega),zr h.r hE.2 h.lt (fun e=>by have:=Option.some.inj e;omega),zK h.t hE.2 h.lt (fun e=>by have:=Option.some.inj e;omega),yK h.lt hE.2.size⟩
theorem drP_set {B pt:Nat}{w V:World}{v:Value}{l:List Int}{m:Int}{c c':Cm}(h:DrP B pt w v l m c V)(hv:l ≠ []->∃k,v.ownBlock=some k/\k<w.heap.size)(hB:B<w.heap.size)(hp:w.heap.size<pt)(j:Nat)(u:Value)(hj:j<8)(hc:c.vs.set j u=c'.vs):DrP B pt w v l m c' (V.setCell (J pt j) u):=by
 refine⟨⟨eQ (b:=pt) (o:=j) hv h.dc.e hB (by omega) [u],xc (vs:=[u]) h.dc.t pt j⟩,?_,xc (vs:=[u]) h.t pt j,yK h.lt (gr_setsD pt [u] j V).size⟩;have:=iR (v:=u) h.r (j0:=j) hj;rwa[Nat.zero_add,hc] at this
def tys8:List Value:=[H 1,H 1,H 1,H 2,H 3,H 4,H 5,H 5]
def tag3:List ByteArray:=[⟨#[]⟩,⟨#[97]⟩,⟨#[100,101,115,107,32,55]⟩]
theorem tag3_len:∀s∈tag3,s.size<=20:=by decide +kernel
def D10 (B S0:Nat)(dj:Nat->World->Prop)(p:Prop)(W:World):Nat->Value->Prop
 | 0,v=>v=I B 0
 | 1,v=>∃y:Int,v=H y
 | 2,v=>∃y:Int,v=H y/\Mi y
 | 3,v=>∃g,v = .slice (some (J g 0)) 8 8/\S0<=g/\(¬ p->W.rangeAt g 0 tys8)
 | 4,v=>v=I B 0
 | 5,v=>∃k:Nat,v=H k/\k<8
 | 6,v=>∃g k,v=I g k/\k<8/\S0<=g/\(¬ p->W.rangeAt g 0 tys8)
 | 7,v=>∃y:Int,v=H y/\Mi y
 | 8,v=>v=I B 0
 | 9,v=>∃y:Int,v=H y
 | 10,v=>∃y:Int,v=H y/\Mi y
 | 11,v=>v=I B 0
 | 12,v=>∃g,v = .slice (some (J g 0)) 3 3/\S0<=g/\(¬ p->W.rangeAt g 0 (tag3.map .string))
 | 13,v=>∃s,v=yk s/\s.size<=20
 | 14,v=>∃c:Cm,v = .agg c.vs.toArray/\DrOk c/\DrIn c
 | 15,v=>∃pt,v=I pt 0/\S0<=pt/\(¬ p->pt<W.heap.size/\W.there pt 0 8)/\(p->dj pt W)
 | _,_=>True
theorem ig {B S0:Nat}{dj:Nat->World->Prop}{p:Prop}{W W':World}(hp:¬ p)(hB:B<S0)(X:W.grownBy W' (some B)):∀j v,D10 B S0 dj p W j v->D10 B S0 dj p W' j v:=by
 have e:∀g (vs:List Value) (u:Value),S0<=g->W.rangeAt g 0 (u::vs)->W'.rangeAt g 0 (u::vs):=fun g vs u h D=>zr D X (yL W _ (D 0 _ rfl)) (fun e=>by have:=Option.some.inj e;omega);intro j v h
 match j with
 | 3=>obtain⟨g,D,Y,h3⟩:=h;exact⟨g,D,Y,fun q=>e g _ _ Y (h3 q)⟩
 | 6=>obtain⟨g,k,D,Y,h3,h4⟩:=h;exact⟨g,k,D,Y,h3,fun q=>e g _ _ h3 (h4 q)⟩
 | 12=>obtain⟨g,D,Y,h3⟩:=h;exact⟨g,D,Y,fun q=>e g _ _ Y (h3 q)⟩
 | 15=>obtain⟨pt,D,Y,h3,h4⟩:=h;exact⟨pt,D,Y,fun q=>⟨yK (h3 q).1 X.size,zK (h3 q).2 X (h3 q).1 (fun e=>by have:=Option.some.inj e;omega)⟩,fun q=>absurd q hp⟩
 | 0|1|2|4|5|7|8|9|10|11|13|14=>exact h
 | j+16=>trivial
theorem tys8_at {W:World}{g k:Nat}(h:W.rangeAt g 0 tys8)(hk:k<8):∃y:Int,W.cell? (J g k)=some (H y)/\Mi y:=by
 rcases(by omega:k=0\/k=1\/k=2\/k=3\/k=4\/k=5\/k=6\/k=7) with rfl|rfl|rfl|rfl|rfl|rfl|rfl|rfl
 all_goals first|exact⟨_,h 0 _ rfl,by unfold Mi;omega⟩|exact⟨_,h 1 _ rfl,by unfold Mi;omega⟩|exact⟨_,h 2 _ rfl,by unfold Mi;omega⟩|exact⟨_,h 3 _ rfl,by unfold Mi;omega⟩|exact⟨_,h 4 _ rfl,by unfold Mi;omega⟩|exact⟨_,h 5 _ rfl,by unfold Mi;omega⟩|exact⟨_,h 6 _ rfl,by unfold Mi;omega⟩|exact⟨_,h 7 _ rfl,by unfold Mi;omega⟩
theorem cmd_drawn (B:Nat)(v:Value)(l:List Int)(m ids:Int)(w:World)(h:Src B w v l m)(hm:m<=700000000)(vk:0<=ids)(hi1:ids<=1000) :
  Calls Tryz.prog 30 #[I B 0,H ids] w fun e w'=>∃c:Cm,e=ym (.agg c.vs.toArray)/\DrOk c/\DrIn c/\zP B w v l (m+100) w':=by
 have HV:=Z (src_far h);have hB:=src_lt h;have aK:Hid (DrC B w.heap.size w v l m (w.alloc (mq (yx 0 0 0 0 0 0 0 ⟨#[]⟩).toArray 33))):=⟨fD (eS h) _,(zn w (yx 0 0 0 0 0 0 0 ⟨#[]⟩) 33).t⟩;have qJ:w.heap.size<(w.alloc (mq (yx 0 0 0 0 0 0 0 ⟨#[]⟩).toArray 33)).heap.size:=by simp
 clear h;go_enter Tryz.func30,Tryz.ntmps30;go_wp2_with fail;generalize (w.alloc (mq (yx 0 0 0 0 0 0 0 ⟨#[]⟩).toArray 33))=W0 at aK qJ |-;refine(zO B v l m 12 W0 (U aK).e.1 (by omega) (by omega) (by omega)).mono ?_;rintro e W1 ⟨y,rfl,jj,kR,hE⟩;have jQ:=Z (fE (U aK) hB hE qJ);have xJ:w.heap.size<W1.heap.size:=yK qJ hE.2.size;clear hE aK qJ
 by_cases e0:y=0
 ·subst e0;go_wp2_with fail;refine(lR B v l (m+3) W1 (U jQ).e.1 (by omega)).mono ?_;rintro e W2 ⟨⟨y1,y2,y3,y4,y5,y6,y7,y8⟩,rfl,hy8,jn,hE⟩;have aP:=Z jn;clear jn;have oV:=Z (fE (U jQ) hB hE xJ);clear hE jQ xJ;unfold Cm.vs;simp only;have cA:=Z (U oV).t;have xQ:Hid ((W2.setCells w.heap.size 0 (yx y1 y2 y3 y4 y5 y6 y7 y8)).rangeAt w.heap.size 0 (yx y1 y2 y3 y4 y5 y6 y7 y8)):=yY _ _ _ _ (U oV).t;have qz:Hid (zP B w v l (m+3+30) (W2.setCells w.heap.size 0 (yx y1 y2 y3 y4 y5 y6 y7 y8))):=eQ (U HV) (U oV).e hB ya _
  try dsimp only
  rename_i K1 cH K2 oz;refine oz _ _ ?_;have xE:=Z cH;clear cH oz;refine wpList_store_mid rfl 33 (.tmp 4) (.tmp 11) rfl w.heap.size 0 (yx y1 y2 y3 y4 y5 y6 y7 y8).toArray rfl rfl (U cA) (by kernel_rfl) (by simp[Value.oneCell']) ?_;change wpList _ _ _ _ _ (W2.setCells w.heap.size 0 (yx y1 y2 y3 y4 y5 y6 y7 y8));generalize W2.setCells w.heap.size 0 (yx y1 y2 y3 y4 y5 y6 y7 y8)=WF at xQ qz |-;have cH:=U xE;go_wp2_with fail;have d0:=U xQ 0 _ rfl;have d1:=U xQ 1 _ rfl;have d2:=U xQ 2 _ rfl;have d3:=U xQ 3 _ rfl;have d4:=U xQ 4 _ rfl;have d5:=U xQ 5 _ rfl;have d6:=U xQ 6 _ rfl;have d7:=U xQ 7 _ rfl;simp only[Nat.zero_add] at d0 d1 d2 d3 d4 d5 d6 d7;refine bodyPost_ret (by simp[results,Tryz.results30,go_sem,d0,d1,d2,d3,d4,d5,d6,d7];try rfl) rfl ?_;exact⟨⟨y1,y2,y3,y4,y5,y6,y7,y8⟩,rfl,hy8,U aP,eH (U qz).1 (by omega),(U qz).2⟩
 have b0:(y==0)=false:=by simpa using e0
 by_cases e1:y=1
 ·subst e1;have pq:IntKind.i64.wrap (ids+1)=ids+1:=by rw[IntKind.wrap_i64];omega
  go_wp2_with fail;refine(zO B v l (m+3) (ids+1) W1 (U jQ).e.1 (by omega) (by omega) (by omega)).mono ?_;rintro e W2 ⟨z,rfl,uI,uG,hE⟩;have oV:=Z (fE (U jQ) hB hE xJ);have hwz:IntKind.i64.wrap (1+z)=1+z:=by rw[IntKind.wrap_i64];omega
  clear hE jQ xJ;have cA:=Z (U oV).t;have xQ:Hid ((W2.setCells w.heap.size 0 (yx 2 0 0 0 0 (1+z) 0 ⟨#[]⟩)).rangeAt w.heap.size 0 (yx 2 0 0 0 0 (1+z) 0 ⟨#[]⟩)):=yY _ _ _ _ (U oV).t;have qz:Hid (zP B w v l (m+3+3) (W2.setCells w.heap.size 0 (yx 2 0 0 0 0 (1+z) 0 ⟨#[]⟩))):=eQ (U HV) (U oV).e hB ya _
  try dsimp only
  rename_i K1 cH K2 oz;refine oz _ _ ?_;have xE:=Z cH;clear cH oz;refine wpList_step fun K3 aV=>?_;have oO:=Z aV;clear aV;go_simp;refine U oO _ _ ?_;clear oO;refine wpList_step fun K3 aV=>?_;have oO:=Z aV;clear aV;go_simp;refine U oO _ _ ?_;clear oO;refine wpList_store_mid rfl 33 (.tmp 4) (.tmp 19) rfl w.heap.size 0 (yx 2 0 0 0 0 (1+z) 0 ⟨#[]⟩).toArray rfl rfl (U cA) (by kernel_rfl) (by simp[Value.oneCell']) ?_;change wpList _ _ _ _ _ (W2.setCells w.heap.size 0 (yx 2 0 0 0 0 (1+z) 0 ⟨#[]⟩));generalize W2.setCells w.heap.size 0 (yx 2 0 0 0 0 (1+z) 0 ⟨#[]⟩)=WF at xQ qz |-;have cH:=U xE;go_wp2_with fail;have d0:=U xQ 0 _ rfl;have d1:=U xQ 1 _ rfl;have d2:=U xQ 2 _ rfl;have d3:=U xQ 3 _ rfl;have d4:=U xQ 4 _ rfl;have d5:=U xQ 5 _ rfl;have d6:=U xQ 6 _ rfl;have d7:=U xQ 7 _ rfl;simp only[Nat.zero_add] at d0 d1 d2 d3 d4 d5 d6 d7;refine bodyPost_ret (by simp[results,Tryz.results30,go_sem,d0,d1,d2,d3,d4,d5,d6,d7];try rfl) rfl ?_;exact⟨⟨2,0,0,0,0,1+z,0,⟨#[]⟩⟩,rfl,⟨by show ByteArray.size ⟨#[]⟩<=20;decide,fx (by kernel_rfl)⟩,by unfold DrIn Mi;simp only;omega,eH (U qz).1 (by omega),(U qz).2⟩
 have b1:(y==1)=false:=by simpa using e1
 by_cases e2:y=2
 ·subst e2;have pq:IntKind.i64.wrap (ids+1)=ids+1:=by rw[IntKind.wrap_i64];omega
  go_wp2_with fail;refine(zO B v l (m+3) (ids+1) W1 (U jQ).e.1 (by omega) (by omega) (by omega)).mono ?_;rintro e W2 ⟨z,rfl,uI,uG,hE⟩;have oV:=Z (fE (U jQ) hB hE xJ);have ug:w.heap.size<W2.heap.size:=yK xJ hE.2.size;have hwz:IntKind.i64.wrap (1+z)=1+z:=by rw[IntKind.wrap_i64];omega
  clear hE jQ xJ;go_wp2_with fail;refine(zO B v l (m+3+3) 6 W2 (U oV).e.1 (by omega) (by omega) (by omega)).mono ?_;rintro e W3 ⟨u,rfl,hu0,hu1,hE⟩;have HD3:=Z (fE (U oV) hB hE ug);clear hE oV ug;have cA:=Z (U HD3).t;have xQ:Hid ((W3.setCells w.heap.size 0 (yx 3 0 0 0 u (1+z) 0 ⟨#[]⟩)).rangeAt w.heap.size 0 (yx 3 0 0 0 u (1+z) 0 ⟨#[]⟩)):=yY _ _ _ _ (U HD3).t;have qz:Hid (zP B w v l (m+3+3+3) (W3.setCells w.heap.size 0 (yx 3 0 0 0 u (1+z) 0 ⟨#[]⟩))):=eQ (U HV) (U HD3).e hB ya _
  try dsimp only
  rename_i K1 cH K2 oz;refine oz _ _ ?_;have xE:=Z cH;clear cH oz;refine wpList_step fun K3 aV=>?_;have oO:=Z aV;clear aV;go_simp;refine U oO _ _ ?_;clear oO;refine wpList_store_mid rfl 33 (.tmp 4) (.tmp 29) rfl w.heap.size 0 (yx 3 0 0 0 u (1+z) 0 ⟨#[]⟩).toArray rfl rfl (U cA) (by kernel_rfl) (by simp[Value.oneCell']) ?_;change wpList _ _ _ _ _ (W3.setCells w.heap.size 0 (yx 3 0 0 0 u (1+z) 0 ⟨#[]⟩));generalize W3.setCells w.heap.size 0 (yx 3 0 0 0 u (1+z) 0 ⟨#[]⟩)=WF at xQ qz |-;have cH:=U xE;go_wp2_with fail;have d0:=U xQ 0 _ rfl;have d1:=U xQ 1 _ rfl;have d2:=U xQ 2 _ rfl;have d3:=U xQ 3 _ rfl;have d4:=U xQ 4 _ rfl;have d5:=U xQ 5 _ rfl;have d6:=U xQ 6 _ rfl;have d7:=U xQ 7 _ rfl;simp only[Nat.zero_add] at d0 d1 d2 d3 d4 d5 d6 d7;refine bodyPost_ret (by simp[results,Tryz.results30,go_sem,d0,d1,d2,d3,d4,d5,d6,d7];try rfl) rfl ?_;exact⟨⟨3,0,0,0,u,1+z,0,⟨#[]⟩⟩,rfl,⟨by show ByteArray.size ⟨#[]⟩<=20;decide,fx (by kernel_rfl)⟩,by unfold DrIn Mi;simp only;omega,eH (U qz).1 (by omega),(U qz).2⟩
 have b2:(y==2)=false:=by simpa using e2
 by_cases e3:y=3
 ·subst e3;have xQ:Hid ((W1.setCells w.heap.size 0 (yx 4 0 0 0 0 0 0 ⟨#[]⟩)).rangeAt w.heap.size 0 (yx 4 0 0 0 0 0 0 ⟨#[]⟩)):=yY _ _ _ _ (U jQ).t;have qz:Hid (zP B w v l (m+3) (W1.setCells w.heap.size 0 (yx 4 0 0 0 0 0 0 ⟨#[]⟩))):=eQ (U HV) (U jQ).e hB ya _
  try dsimp only
  repeat (first|(refine wpList_store_mid rfl 33 (.tmp 4) (.tmp 32) rfl w.heap.size 0 (yx 4 0 0 0 0 0 0 ⟨#[]⟩).toArray rfl rfl (U jQ).t (by kernel_rfl) (by simp[Value.oneCell']) ?_;change wpList _ _ _ _ _ (W1.setCells w.heap.size 0 (yx 4 0 0 0 0 0 0 ⟨#[]⟩)))|go_step)
  generalize W1.setCells w.heap.size 0 (yx 4 0 0 0 0 0 0 ⟨#[]⟩)=WF at xQ qz |-;have d0:=U xQ 0 _ rfl;have d1:=U xQ 1 _ rfl;have d2:=U xQ 2 _ rfl;have d3:=U xQ 3 _ rfl;have d4:=U xQ 4 _ rfl;have d5:=U xQ 5 _ rfl;have d6:=U xQ 6 _ rfl;have d7:=U xQ 7 _ rfl;simp only[Nat.zero_add] at d0 d1 d2 d3 d4 d5 d6 d7;refine bodyPost_ret (by simp[results,Tryz.results30,go_sem,d0,d1,d2,d3,d4,d5,d6,d7];try rfl) rfl ?_;exact⟨⟨4,0,0,0,0,0,0,⟨#[]⟩⟩,rfl,⟨by show ByteArray.size ⟨#[]⟩<=20;decide,fx (by kernel_rfl)⟩,by unfold DrIn Mi;simp only;omega,eH (U qz).1 (by omega),(U qz).2⟩
 have b3:(y==3)=false:=by simpa using e3
 clear e0 e1 e2 e3;go_wp2_with fail;have hB1:B<W1.heap.size:=by omega
 refine zu (RS (BSd B W1 v l (m+3)) (fun f=>{ tmps:=#[I B 0,H ids,M,M,yp w 0,f 15,I B 0,H y,.bool false,.bool false,M,M,.bool false,.bool false,M,M,M,M,M,M,.bool false,.bool false,M,M,M,M,M,M,M,M,.bool false,.bool false,M,f 0,f 1,f 2,f 3,f 4,f 5,f 6,f 7,f 8,f 9,f 10,f 11,f 12,f 13,f 14,M,M,M,M,M,M,M,M,M,M,M,M,M,M,M,M,M,M],defers:=[] }) 16 (D10 B W1.heap.size (fun pt W=>∃c:Cm,(DrOk c/\DrIn c)/\W.rangeAt pt 0 c.vs/\W.there pt 0 8/\pt<W.heap.size/\DrC B w.heap.size w v l (m+60) W))) (by kernel_rfl) ?_ ?_ ?_
 ·exact⟨fun j=>M,rfl,fun _=>⟨m+3,by simp,fY (eS (U jQ).e.1) 1⟩,fun j hj=>by rw[yJ] at hj;split at hj <;> simp at hj⟩
 ·rintro x zb V ⟨f,rfl,-,hD⟩ hx xS;have xq:=eE xS hx (acyc _ (by kernel_rfl));obtain⟨pt,e15,hSp,-,qv⟩:=hD 15 (xq 15 (by simp));obtain⟨⟨ck,F,ct,O,cq,ci,cp,cg⟩,hcg,hr,ht,uA,hdc⟩:=qv (xq 16 (by simp));have HP:Hid (DrP B pt w v l (m+60) ⟨ck,F,ct,O,cq,ci,cp,cg⟩ V):=⟨hdc,hr,ht,uA⟩;have HCG:Hid (cg.size<=20):=hcg.1.1;have HCP:Hid (PrV cp):=⟨hcg.1.2,hcg.2.2.2.2.2.2.2⟩;have aP:Hid (DrIn ⟨ck,F,ct,O,cq,ci,cp,cg⟩):=hcg.2;have hsp:w.heap.size<pt:=yK xJ hSp;dsimp only;simp only[e15];clear hD xq xS hx hr ht hdc qv e15 jQ hSp uA hcg;generalize f 0=a0,f 1=a1,f 2=a2,f 3=a3,f 4=a4,f 5=a5,f 6=a6,f 7=a7,f 8=a8,f 9=a9,f 10=a10,f 11=a11,f 12=a12,f 13=a13,f 14=a14
  go_step
  go_step
  refine ms fun K2 jH=>?_
  have HT:Hid (∀(u48 u49 u50 u51 u52 u53 u54 u55 u56:Value) (p':Nat) (V':World),PrV p'->DrP B pt w v l (m+63) ⟨ck,F,ct,O,cq,ci,p',cg⟩ V'->K2 { tmps:=#[I B 0,H ids,M,M,yp w 0,I pt 0,I B 0,H y,.bool false,.bool false,M,M,.bool false,.bool false,M,M,M,M,M,M,.bool false,.bool false,M,M,M,M,M,M,M,M,.bool false,.bool false,M,a0,a1,a2,a3,a4,a5,a6,a7,a8,a9,a10,a11,a12,a13,a14,u48,u49,u50,u51,u52,u53,u54,u55,u56,M,M,M,M,M,M,M,M,M],defers:=[] } V'):=by
   intro u48 u49 u50 u51 u52 u53 u54 u55 u56 p' V' cV hP;have HPW:=Z cV;clear cV;have HP1:=Z hP;clear hP HP;refine U jH _ _ ?_;clear jH;refine ms fun K3 oO=>?_
   have un:Hid (∀(u48 u49 u50 u51 u52 u53 u54 u55 u56 u57 u58 u59 u60 u61 u62 u63 u64:Value) (l':Int) (V2:World),Mi l'->DrP B pt w v l (m+66) ⟨ck,F,ct,l',cq,ci,p',cg⟩ V2->K3 { tmps:=#[I B 0,H ids,M,M,yp w 0,I pt 0,I B 0,H y,.bool false,.bool false,M,M,.bool false,.bool false,M,M,M,M,M,M,.bool false,.bool false,M,M,M,M,M,M,M,M,.bool false,.bool false,M,a0,a1,a2,a3,a4,a5,a6,a7,a8,a9,a10,a11,a12,a13,a14,u48,u49,u50,u51,u52,u53,u54,u55,u56,u57,u58,u59,u60,u61,u62,u63,u64,M],defers:=[] } V2):=by
    intro u48 u49 u50 u51 u52 u53 u54 u55 u56 u57 u58 u59 u60 u61 u62 u63 u64 l' V2 hml hP;have HML:=Z hml;clear hml;have cA:=Z hP.dc.t;have xQ:Hid ((V2.setCells w.heap.size 0 (yx ck F ct l' cq ci p' cg)).rangeAt w.heap.size 0 (yx ck F ct l' cq ci p' cg)):=yY _ _ _ _ hP.dc.t;have qz:Hid (zP B w v l (m+66) (V2.setCells w.heap.size 0 (yx ck F ct l' cq ci p' cg))):=eQ (U HV) hP.dc.e hB ya _;obtain⟨o0,o1,o2,o3,o4,o5,o6,o7⟩:=yE (hP.r);clear hP HP1;refine U oO _ _ ?_;clear oO
    repeat (first|(refine wpList_store_mid rfl 33 (.tmp 4) (.tmp 65) rfl w.heap.size 0 (yx ck F ct l' cq ci p' cg).toArray rfl rfl (U cA) (by kernel_rfl) (by simp[Value.oneCell']) ?_;change wpList _ _ _ _ _ (V2.setCells w.heap.size 0 (yx ck F ct l' cq ci p' cg)))|go_step)
    generalize V2.setCells w.heap.size 0 (yx ck F ct l' cq ci p' cg)=WF at xQ qz |-;have d0:=U xQ 0 _ rfl;have d1:=U xQ 1 _ rfl;have d2:=U xQ 2 _ rfl;have d3:=U xQ 3 _ rfl;have d4:=U xQ 4 _ rfl;have d5:=U xQ 5 _ rfl;have d6:=U xQ 6 _ rfl;have d7:=U xQ 7 _ rfl;simp only[Nat.zero_add] at d0 d1 d2 d3 d4 d5 d6 d7;refine bodyPost_ret (by simp[results,Tryz.results30,go_sem,d0,d1,d2,d3,d4,d5,d6,d7];try rfl) rfl ?_;exact⟨⟨ck,F,ct,l',cq,ci,p',cg⟩,rfl,⟨U HCG,(U HPW).1⟩,⟨(U aP).1,(U aP).2.1,(U aP).2.2.1,U HML,(U aP).2.2.2.2.1,(U aP).2.2.2.2.2.1,(U HPW).2⟩,eH (U qz).1 (by omega),(U qz).2⟩
   clear oO;have o2:V'.cell? (J pt 2)=some (H ct):=(U HP1).r 2 _ rfl;go_wp2_with fail;refine(gG ct V').mono ?_;rintro e V3 ⟨rfl,rfl⟩;cases E:dT ct
   ·go_wp2_with fail;exact U un _ _ _ _ _ _ _ _ _ _ _ _ _ _ _ _ _ O V3 (U aP).2.2.2.1 (drP_more (U HP1) (by omega))
   ·go_wp2_with fail;refine(chance_any B v l (m+63) 3 V3 (U HP1).dc.e.1 (by omega) (by omega) (by omega)).mono ?_;rintro e V4 ⟨b,rfl,hE⟩;have HP4:=Z (drP_step (U HP1) hB hsp hE);clear hE;cases b
    ·go_wp2_with fail;exact U un _ _ _ _ _ _ _ _ _ _ _ _ _ _ _ _ _ O V4 (U aP).2.2.2.1 (drP_more (U HP4) (by omega))
    ·have o3:V4.cell? (J pt 3)=some (H O):=(U HP4).r 3 _ rfl;have z3:V4.frozen? (J pt 3)=false:=by have:=((U HP4).t 3 (by omega)).2;rwa[Nat.zero_add] at this
     have HP5:=Z (drP_set (c':=⟨ck,F,ct,1,cq,ci,p',cg⟩) (U HP4) (U HV) hB hsp 3 (H 1) (by omega) rfl);go_wp2_with fail;exact U un _ _ _ _ _ _ _ _ _ _ _ _ _ _ _ _ _ 1 _ (eM (by omega) (by omega)) (drP_more (U HP5) (by omega))
  clear jH;have o2:V.cell? (J pt 2)=some (H ct):=(U HP).r 2 _ rfl
  by_cases hty:ct=2
  ·subst hty;go_wp2_with fail;exact U HT _ _ _ _ _ _ _ _ _ cp V (U HCP) (drP_more (U HP) (by omega))
  ·have E:(ct != 2)=true:=by simpa using hty
   go_wp2_with fail;refine(zO B v l (m+60) 9 V (U HP).dc.e.1 (by omega) (by omega) (by omega)).mono ?_;rintro e V2 ⟨y9,rfl,h90,h91,hE⟩;obtain⟨k9,rfl⟩:=Int.eq_ofNat_of_zero_le h90;obtain⟨pa,pb,pc,hpo,cV⟩:=prO_any k9 (by omega);have HPW:=Z cV;clear cV;have HP2:=Z (drP_step (U HP) hB hsp hE);have f1:=fun W=>(hpo W).1;have f2:=fun W=>(hpo W).2.1;have f3:=fun W=>(hpo W).2.2;have o6:V2.cell? (J pt 6)=some (yj cp):=(U HP2).r 6 _ rfl;have z6:V2.frozen? (J pt 6)=false:=by have:=((U HP2).t 6 (by omega)).2;rwa[Nat.zero_add] at this
   have HP3:=Z (drP_set (c':=⟨ck,F,ct,O,cq,ci,pc,cg⟩) (U HP2) (U HV) hB hsp 6 (yj pc) (by omega) rfl);have qK:(store (J pt 6) (yj pc)).run Tryz.prog V2 = .ok () (V2.setCell (J pt 6) (yj pc)):=by rw[run_store _ _ _ _ _ rfl,o6,z6];rfl
   clear hE hpo;go_wp2_with fail;exact U HT _ _ _ _ _ _ _ _ _ pc _ (U HPW) (drP_more (U HP3) (by omega))
 ·rintro x zb V j o ⟨f,rfl,kZ,hD⟩ xn hx Q xu R;have uJ:=Z kZ;have HD:=Z hD
  have kk:j<16->¬ x[16]? = some true:=fun xM dC=>by
   have e:∀i,i<16->x[i]? = some true:=fun i hi=>by
    rcases(by omega:i=0\/i=1\/i=2\/i=3\/i=4\/i=5\/i=6\/i=7\/i=8\/i=9\/i=10\/i=11\/i=12\/i=13\/i=14\/i=15) with rfl|rfl|rfl|rfl|rfl|rfl|rfl|rfl|rfl|rfl|rfl|rfl|rfl|rfl|rfl|rfl
    all_goals exact xn 16 _ rfl dC ⟨_,.phase⟩ (by simp) rfl
   rw[e j xM] at xu;cases xu
  have aZ:x.count true<=17:=by have:=List.count_le_length (a:=true) (l:=x);rw[hx] at this;simpa using this
  clear kZ xn
  match j,Q with
  | 0,Q|4,Q|8,Q|11,Q =>
   cases Q;have nk:=kk (by omega);clear R hD;go_simp;exact⟨upd f _ (I B 0),by simp[upd],zQ (U HD) (by decide) xu (fun _ _ h=>h) (gB (U uJ nk)) rfl⟩
  | 1,Q =>
   cases Q;have nk:=kk (by omega);have gd:f 0=I B 0:=hD 0 (ye R 0 rfl);obtain⟨mm,kl,vM⟩:=U uJ nk;have kr:=Z vM;have aY:mm<=900000000:=by omega
   clear vM;clear R hD;go_simp;refine(zO B v l mm 2 V (U kr).1 (by omega) (by omega) (by omega)).mono ?_;rintro e w5 ⟨y5,rfl,-,-,kg⟩;exact⟨upd f 1 (H y5),by simp[upd,gd],zQ (U HD) (by decide) xu (ig nk hB1 kg.2) (bsd_call kl (U kr) kg) ⟨y5,rfl⟩⟩
  | 2,Q =>
   cases Q;have nk:=kk (by omega);obtain⟨y5,gd⟩:=hD 1 (ye R 1 rfl);clear R hD;go_simp;exact⟨upd f 2 (H (IntKind.i64.wrap (1+y5))),by simp[upd,gd],zQ (U HD) (by decide) xu (fun _ _ h=>h) (gB (U uJ nk)) ⟨_,rfl,mi_wrap _⟩⟩
  | 3,Q =>
   cases Q;have nk:=kk (by omega);have hS:W1.heap.size<=V.heap.size:=by obtain⟨mm,kl,vM⟩:=U uJ nk;exact vM.2.size
   clear R hD;go_simp;exact⟨upd f 3 (.slice (some (yq V 0)) 8 8),by simp[upd],zQ (U HD) (by decide) xu (ig nk hB1 (fh _ _ _)) (bsd_alloc (U uJ nk) _) ⟨V.heap.size,rfl,hS,fun _=>(zn V tys8 _).r⟩⟩
  | 5,Q =>
   cases Q;have nk:=kk (by omega);have gd:f 4=I B 0:=hD 4 (ye R 4 rfl);obtain⟨mm,kl,vM⟩:=U uJ nk;have kr:=Z vM;have aY:mm<=900000000:=by omega
   clear vM;clear R hD;go_simp;refine(zO B v l mm 8 V (U kr).1 (by omega) (by omega) (by omega)).mono ?_;rintro e w5 ⟨y5,rfl,bO,h51,kg⟩;obtain⟨k5,rfl⟩:=Int.eq_ofNat_of_zero_le bO;exact⟨upd f 5 (H k5),by simp[upd,gd],zQ (U HD) (by decide) xu (ig nk hB1 kg.2) (bsd_call kl (U kr) kg) ⟨k5,rfl,by omega⟩⟩
  | 6,Q =>
   cases Q;have nk:=kk (by omega);obtain⟨g,g3,hSg,po⟩:=hD 3 (ye R 3 rfl);obtain⟨k,g5,hk⟩:=hD 5 (ye R 5 rfl);have dx:=Z (po nk);have hki:(k:Int)<8:=by omega
   clear po;clear R hD;go_simp;exact⟨upd f 6 (I g k),by simp[upd,g3,g5],zQ (U HD) (by decide) xu (fun _ _ h=>h) (gB (U uJ nk)) ⟨g,k,rfl,hk,hSg,fun _=>U dx⟩⟩
  | 7,Q =>
   cases Q;have nk:=kk (by omega);obtain⟨g,k,g6,hk,hSg,po⟩:=hD 6 (ye R 6 rfl);obtain⟨y7,hc7,hm7⟩:=tys8_at (po nk) hk;have qu:=Z hm7;clear hm7;clear po;clear R hD;go_simp;exact⟨upd f 7 (H y7),by simp[upd,g6],zQ (U HD) (by decide) xu (fun _ _ h=>h) (gB (U uJ nk)) ⟨_,rfl,U qu⟩⟩
  | 9,Q =>
   cases Q;have nk:=kk (by omega);have gd:f 8=I B 0:=hD 8 (ye R 8 rfl);obtain⟨mm,kl,vM⟩:=U uJ nk;have kr:=Z vM;have aY:mm<=900000000:=by omega
   clear vM;clear R hD;go_simp;refine(zO B v l mm 12 V (U kr).1 (by omega) (by omega) (by omega)).mono ?_;rintro e w5 ⟨y5,rfl,-,-,kg⟩;exact⟨upd f 9 (H y5),by simp[upd,gd],zQ (U HD) (by decide) xu (ig nk hB1 kg.2) (bsd_call kl (U kr) kg) ⟨y5,rfl⟩⟩
  | 10,Q =>
   cases Q;have nk:=kk (by omega);obtain⟨y5,gd⟩:=hD 9 (ye R 9 rfl);clear R hD;go_simp;exact⟨upd f 10 (H (IntKind.i64.wrap (1+y5))),by simp[upd,gd],zQ (U HD) (by decide) xu (fun _ _ h=>h) (gB (U uJ nk)) ⟨_,rfl,mi_wrap _⟩⟩
  | 12,Q =>
   cases Q;have nk:=kk (by omega);have hS:W1.heap.size<=V.heap.size:=by obtain⟨mm,kl,vM⟩:=U uJ nk;exact vM.2.size
   clear R hD;go_simp;exact⟨upd f 12 (.slice (some (yq V 0)) 3 3),by simp[upd],zQ (U HD) (by decide) xu (ig nk hB1 (fh _ _ _)) (bsd_alloc (U uJ nk) _) ⟨V.heap.size,rfl,hS,fun _=>(zn V (tag3.map .string) _).r⟩⟩
  | 13,Q =>
   cases Q;have nk:=kk (by omega);have gd:f 11=I B 0:=hD 11 (ye R 11 rfl);obtain⟨g,gs,hSg,po⟩:=hD 12 (ye R 12 rfl);have dx:=Z (po nk);clear po;obtain⟨mm,kl,vM⟩:=U uJ nk;have kr:=Z vM;have aY:mm<=900000000:=by omega
   clear vM;clear R hD;go_simp;refine(pick_any B g 3 v l mm tag3 V (U kr).1 (by omega) (by omega) rfl (by omega) (by omega) (fun k s hs=>by have:=U dx k (yk s) (by rw[List.getElem?_map,hs];rfl);rwa[Nat.zero_add] at this)).mono ?_;rintro e w5 ⟨s5,rfl,hs5,kg⟩;exact⟨upd f 13 (yk s5),by simp[upd,gd,gs],zQ (U HD) (by decide) xu (ig nk hB1 kg.2) (bsd_call kl (U kr) kg) ⟨s5,rfl,tag3_len s5 hs5⟩⟩
  | 14,Q =>
   cases Q;have nk:=kk (by omega);obtain⟨y2,g2,i2⟩:=hD 2 (ye R 2 rfl);obtain⟨y7,g7,i7⟩:=hD 7 (ye R 7 rfl);obtain⟨dO,jL,i10⟩:=hD 10 (ye R 10 rfl);obtain⟨s13,kI,hs13⟩:=hD 13 (ye R 13 rfl);have HII:Hid (Mi y2/\Mi y7/\Mi dO):=⟨i2,i7,i10⟩;clear R hD i2 i7 i10;go_simp;exact⟨upd f 14 (.agg (Cm.mk 1 y2 y7 0 dO 0 0 s13).vs.toArray),by simp[upd,g2,g7,jL,kI,Cm.vs],zQ (U HD) (by decide) xu (fun _ _ h=>h) (gB (U uJ nk)) ⟨⟨1,y2,y7,0,dO,0,0,s13⟩,rfl,⟨hs13,fx (by kernel_rfl)⟩,drIn_new (U HII).1 (U HII).2.1 (U HII).2.2⟩⟩
  | 15,Q =>
   cases Q;have nk:=kk (by omega);have hS:W1.heap.size<=V.heap.size:=by obtain⟨mm,kl,vM⟩:=U uJ nk;exact vM.2.size
   clear R hD;go_simp;exact⟨upd f 15 (yp V 0),by simp[upd],zQ (U HD) (by decide) xu (ig nk hB1 (fh _ _ _)) (bsd_alloc (U uJ nk) _) ⟨V.heap.size,rfl,hS,fun _=>⟨by simp,(zn V (yx 0 0 0 0 0 0 0 ⟨#[]⟩) _).t⟩,fun q=>absurd q nk⟩⟩
  | 16,Q =>
   cases Q;have nk0:¬ x[16]? = some true:=by rw[xu];simp
   obtain⟨⟨ck,F,ct,O,cq,ci,cp,cg⟩,pf,hcg⟩:=hD 14 (ye R 14 rfl);obtain⟨pt,g15,hSp,uA,-⟩:=hD 15 (ye R 15 rfl);obtain⟨uA,pD⟩:=uA nk0;obtain⟨mm,kl,vM⟩:=U uJ nk0;have hsv:w.heap.size<V.heap.size:=yK xJ vM.2.size;have HDC:Hid (DrC B w.heap.size w v l (m+60) (V.setCells pt 0 (Cm.mk ck F ct O cq ci cp cg).vs)):=⟨eQ (U HV) ⟨eH vM.1 (by omega),zw (U jQ).e.2 vM.2⟩ hB (by omega) _,xc (zK (U jQ).t vM.2 xJ (fun e=>by have:=Option.some.inj e;omega)) pt 0 _⟩;have pM:Hid ((V.setCells pt 0 (Cm.mk ck F ct O cq ci cp cg).vs).rangeAt pt 0 (Cm.mk ck F ct O cq ci cp cg).vs/\(V.setCells pt 0 (Cm.mk ck F ct O cq ci cp cg).vs).there pt 0 8/\pt<(V.setCells pt 0 (Cm.mk ck F ct O cq ci cp cg).vs).heap.size):=⟨yY _ _ _ _ pD,xc pD pt 0 _,yK uA (gr_setsD pt _ 0 V).size⟩;clear R hD vM;rw[if_pos (by rfl)];refine wp_store_mid 33 (.tmp 5) (.tmp 47) rfl pt 0 (Cm.mk ck F ct O cq ci cp cg).vs.toArray g15 pf pD (by kernel_rfl) (by simp[Value.oneCell',Cm.vs]) ?_;refine⟨upd f 16 M,by simp[upd,Act.put],rs_last (U HD) xu (fun j hj hxj h=>?_) trivial⟩
   match j with
   | 3=>obtain⟨g,D,Y,h3⟩:=h;exact⟨g,D,Y,fun q=>absurd trivial q⟩
   | 6=>obtain⟨g,k,D,Y,h3,h4⟩:=h;exact⟨g,k,D,Y,h3,fun q=>absurd trivial q⟩
   | 12=>obtain⟨g,D,Y,h3⟩:=h;exact⟨g,D,Y,fun q=>absurd trivial q⟩
   | 15=>exact⟨pt,g15,hSp,fun q=>absurd trivial q,fun _=>⟨⟨ck,F,ct,O,cq,ci,cp,cg⟩,hcg,(U pM).1,(U pM).2.1,(U pM).2.2,U HDC⟩⟩
   | 16=>exact absurd rfl hj
   | 0|1|2|4|5|7|8|9|10|11|13|14=>exact h
   | j+17=>trivial
  | j+17,Q=>simp at Q
theorem Tryz.infoCmdD:(Tryz.prog.info? 33).map (fun i=>(i.zero,i.size,i.bytes))=some (some (.agg (yx 0 0 0 0 0 0 0 ⟨#[]⟩).toArray),8,72):=by kernel_rfl
end Go.Proofs.YthhkapcbocgcoaaGreatDoor
