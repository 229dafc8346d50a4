/-.-/
import Derived.Test.YthhkapcbocgcoaaGreatDoorKj35
import Derived.Test.YthhkapcbocgcoaaGreatDoorKj42
import Derived.Test.YthhkapcbocgcoaaGreatDoorKj46
import Derived.Test.YthhkapcbocgcoaaGreatDoorKj47
set_option linter.unusedVariables false
set_option maxHeartbeats 6400000
set_option maxRecDepth 100000
namespace Go.Proofs.YthhkapcbocgcoaaGreatDoor
open Go.RowKit


def cutC (c:Cm):Cm:=⟨c.k,c.s,c.t,c.l,c.q,c.i,c.p,cutB c.g⟩
theorem form1 {n:Int}{l:List Od}{c:Cm}(h:refR n l c=0)(hk:c.k=1):c=⟨1,c.s,c.t,c.l,c.q,0,c.p,c.g⟩:=by
 rw[refR,if_pos hk] at h
 have e:dY ⟨1,c.s,c.t,c.l,c.q,0,c.p,c.g⟩ c=true:=by
  cases hs:dY ⟨1,c.s,c.t,c.l,c.q,0,c.p,c.g⟩ c
  ·rw[hs] at h;cases h
  ·rfl
 rw[dY] at e;simp only[xf,beq_iff_eq] at e;obtain⟨k,s,t,l',q,i,p,g⟩:=c;simp only at hk e |-;rw[hk,<- e.2.2.2.2.2.1]

theorem okB_back {n:Int}{l:List Od}(h:okS n l=true):OkB n l:=by
 simp only[okS,betB,xf,xg] at h;obtain⟨⟨⟨⟨h0,D⟩,Y⟩,h3⟩,h4,h5⟩:=h;exact⟨h0,D,Y,iU h3,(iC h3).1,(iC h3).2,allR_ids h3,h4,(noX_iff l).1 h5⟩
def Mh (x:Int):Prop:=-9223372036854775808<=x/\x<=9223372036854775807
structure CmFit (c:Cm):Prop where
 k:Mh c.k
 s:Mh c.s
 t:Mh c.t
 l:Mh c.l
 q:Mh c.q
 i:Mh c.i
 p:c.p<18446744073709551616
 g:c.g.size<=20
theorem gy {x:Int}(h0:-1000000<=x)(D:x<=1000000):Mh x:=⟨by omega,by omega⟩
theorem fit_of {e:Ev}(hc:CmFit e.cmd)(hk:Mh e.kind)(D:Mh e.id)(Y:Mh e.other)(h3:Mh e.qty)(h4:Mh e.price)(h5:Mh e.reason):e.fit:=by
 refine⟨fun o=>?_,hk,hc.p,yO hc.g (by unfold maxLen;omega)⟩;unfold Ev.num;split
 ·exact hc.k
 ·exact hc.s
 ·exact hc.t
 ·exact hc.l
 ·exact hc.q
 ·exact hc.i
 ·exact D
 ·exact Y
 ·exact h3
 ·exact h4
 ·exact h5
 ·exact⟨by decide,by decide⟩
theorem zCm_fit:CmFit zCm:=⟨⟨by decide,by decide⟩,⟨by decide,by decide⟩,⟨by decide,by decide⟩,⟨by decide,by decide⟩,⟨by decide,by decide⟩,⟨by decide,by decide⟩,by decide,by decide⟩
theorem cut_fit {c:Cm}(h:CmFit c):CmFit (cutC c):=⟨h.k,h.s,h.t,h.l,h.q,h.i,h.p,yO (gI _) (by decide)⟩
theorem mat_fit {c:Cm}{id N:Int}(uk:Mh id):∀(n:Nat) (l:List Od) (left:Int) (ts:List Ev),GoodL l->0<=left->left<=1000000->(∀o∈l,Mh o.id/\Mh o.ticks)->(∀e∈ts,e.fit)->∀e∈(matL c id n l left ts).2.2,e.fit
 | 0,l,left,ts,h,h0,D,hi,ht=>ht
 | n+1,l,left,ts,h,h0,D,hi,ht=>by
  rw[matL]
  by_cases hl:0<left
  ·rw[if_pos hl];cases hf:dZ l (othS c.s) with
   | none=>exact ht
   | some o =>
    simp only
    by_cases hm:eB c o=true
    ·rw[if_pos hm];obtain⟨vr,_⟩:=gJ hf;obtain⟨k,hk⟩:=List.getElem?_of_mem vr;have Q:=h.left o vr;rw[fU h.rise hk,Int.toNat_natCast];refine mat_fit (N:=N) uk n _ _ _ (gN h hk (by omega) (by omega)).1 (by omega) (by omega) (fun x hx=>?_) (fun e he=>?_)
     ·rw[dR] at hx;split at hx
      ·rcases List.mem_append.1 hx with hx|hx
       ·exact hi x (List.mem_of_mem_take hx)
       ·exact hi x (List.mem_of_mem_drop hx)
      ·rcases List.mem_or_eq_of_mem_set hx with hx|rfl
       ·exact hi x hx
       ·exact hi o vr
     ·rcases List.mem_append.1 he with he|he
      ·exact ht e he
      ·rw[List.mem_singleton.1 he];exact fit_of zCm_fit ⟨by show(-9223372036854775808:Int)<=3;decide,by show(3:Int) <= _;decide⟩ uk (hi o vr).1 (gy (by show -1000000<=min left o.left;omega) (by show min left o.left<=1000000;omega)) (hi o vr).2 ⟨by show(-9223372036854775808:Int)<=0;decide,by show(0:Int) <= _;decide⟩
    ·rw[if_neg hm];exact ht
  ·rw[if_neg hl];exact ht
theorem ref_mh (n:Int)(l:List Od)(c:Cm):Mh (refR n l c):=by
 have f:∀x:Int,0<=x/\x<=20->Mh x:=fun x h=>gy (by omega) (by omega);refine f _ ?_
 have hm:∀cs:List Od × Int × List Ev,0<=matR n c cs/\matR n c cs<=20:=fun cs=>by
  rw[matR];repeat' split
  all_goals omega
 have hn:0<=newR n l c/\newR n l c<=20:=by
  rw[newR];repeat' split
  all_goals first|omega|exact hm _
 have hi:∀i,0<=idR l i/\idR l i<=20:=fun i=>by rw[idR];split <;> omega
 have hr:∀i q,0<=redR l i q/\redR l i q<=20:=fun i q=>by
  unfold redR
  repeat' split
  all_goals omega
 rw[refR];repeat' split
 all_goals first|omega|exact hn|exact hi _ | exact hr _ _
theorem ord_ticks {o:Od}(h:ordB o=true):1<=o.ticks/\o.ticks<=1000000:=by
 simp[ordB,betB] at h;omega
theorem stE_fit {n:Int}{l:List Od}{c:Cm}(h:OkB n l)(hc:CmFit c):∀e∈stE n l c,e.fit:=by
 have X:=okB_good h;have z:Mh 0:=⟨by decide,by decide⟩;have qx:∀x:Int,0<=x->x<=9->Mh x:=fun x a b=>gy (by omega) (by omega);have hn:Mh n:=gy (by have:=h.n1;omega) h.n2
 have uk:∀o∈l,Mh o.id/\Mh o.ticks:=fun o Q=>by
  have D:=h.id0 o Q;have Y:=h.ids o Q;have h3:=h.n2;have h4:=ord_ticks (h.ord o Q);exact⟨gy (by omega) (by omega),gy (by omega) (by omega)⟩
 rw[stE]
 by_cases h0:refR n l c=0
 ·rw[if_pos h0]
  by_cases hk:c.k=1
  ·rw[if_pos hk];have hq:=ref_newq h0 hk;have hm:=mat_fit (c:=c) (N:=n) hn 21 l c.q [] X (by omega) hq.2 uk (by simp);obtain⟨g1,g2,g3⟩:=iI (c:=c) (id:=n) 21 l c.q [] X (by omega) hq.2;have hf:=form1 h0 hk;rw[accE,List.cons_append];intro e he;rcases List.mem_cons.1 he with rfl|he
   ·exact fit_of (by show CmFit ⟨1,c.s,c.t,c.l,c.q,0,c.p,c.g⟩;rw[<- hf];exact hc) (qx _ (by show(0:Int)<=1;decide) (by show(1:Int)<=9;decide)) hn z z z z
   ·rcases List.mem_append.1 he with he|he
    ·exact hm e he
    ·split at he
     ·rw[List.mem_singleton.1 he];refine fit_of zCm_fit ?_ hn z (gy (by show -1000000<=(matL c n 21 l c.q []).2.1;omega) g3) z z;show Mh (if dT c.t=true then 4 else 5)
      split
      ·exact qx _ (by decide) (by decide)
      ·exact qx _ (by decide) (by decide)
     ·cases he
  ·rw[if_neg hk];split
   ·split
    ·next o Q =>
     intro e he;rw[List.mem_singleton.1 he];have hL:=X.left o (yP Q);exact fit_of zCm_fit (qx _ (by show(0:Int)<=6;decide) (by show(6:Int)<=9;decide)) hc.i z (gy (by show -1000000<=o.left;omega) hL.2) z z
    ·intro e he;cases he
   ·split
    ·intro e he;rw[List.mem_singleton.1 he];exact fit_of zCm_fit (qx _ (by show(0:Int)<=7;decide) (by show(7:Int)<=9;decide)) hc.i z hc.q z z
    ·intro e he;rcases List.mem_cons.1 he with rfl|he
     ·have D:=List.length_filter_le dyB l;have Y:=X.len;exact fit_of zCm_fit (qx _ (by show(0:Int)<=8;decide) (by show(8:Int)<=9;decide)) z z (gy (by show -1000000<=(((l.filter dyB).length:Nat):Int);omega) (by show(((l.filter dyB).length:Nat):Int)<=1000000;omega)) z z
     ·obtain⟨o,Q,rfl⟩:=List.mem_map.1 he;have hm:=(List.mem_filter.1 Q).1;have hL:=X.left o hm;exact fit_of zCm_fit (qx _ (by show(0:Int)<=9;decide) (by show(9:Int)<=9;decide)) (uk o hm).1 z (gy (by show -1000000<=o.left;omega) hL.2) z z
 ·rw[if_neg h0];intro e he;rw[List.mem_singleton.1 he];exact fit_of (cut_fit hc) (qx _ (by show(0:Int)<=2;decide) (by show(2:Int)<=9;decide)) z z z z (ref_mh n l c)
theorem stE_len {next:Int}{l:List Od}{c:Cm}(X:GoodL l):(stE next l c).length<=100:=by
 have hl:=X.len;rw[stE];split
 ·split
  ·have D:=matL_few (c:=c) (id:=next) 21 l c.q [];rw[accE];simp only[yQ,List.length_cons,List.length_nil] at D |-;split <;> simp <;> omega
  ·split
   ·split <;> simp
   ·split
    ·simp
    ·have D:(l.filter dyB).length<=20:=yO (List.length_filter_le _ _) hl;simp only[List.length_cons,List.length_map];omega
 ·simp
section
variable {vs:List Value} {ks:List (Nat × Nat)} {S:Nat} {n N rc:Int} {l hR:List Od} {hb:List Ev} {p:Prop} {W W':World} {j d:Nat} {v u:Value}
end
theorem drIn_fit {c:Cm}(h:DrOk c)(Y:DrIn c):CmFit c:=⟨Y.1,Y.2.1,Y.2.2.1,Y.2.2.2.1,Y.2.2.2.2.1,Y.2.2.2.2.2.1,Y.2.2.2.2.2.2,h.1⟩
structure GD (B b4:Nat) (w:World) (v:Value) (l:List Int) (m n:Int) (vq:Value) (q:List Od) (vg:Value) (es:List Ev) (V:World):Prop where
 s:zP B w v l m V
 r:Bx V w.heap.size [.int .i64 0,.slice none 0 0]
 k:Bx V b4 [.int .i64 n,vq]
 oq:OwnR Od.vs 6 (w.heap.size+1) V vq q
 og:OwnR Ev.vs 14 (b4+1) V vg es
 e4:w.heap.size<b4
 l4:b4<V.heap.size
 qb:q ≠ []->∀b,vq.ownBlock=some b->b<b4
theorem row_any {W:World}{B e z n:Nat}{v:Value}{xs:List Value}(h:W.ownsRow B e z v n xs):∃a c,v = .slice a n c:=by
 rcases h.2 with⟨D,Y⟩|⟨g,cap,xA,D,_⟩
 ·exact⟨none,0,by rw[D,Y]⟩
 ·exact⟨_,_,D⟩
theorem fH {w:World}{b o n:Nat}(h:w.there b o n)(j:Nat)(hj:j<n):∃v,w.cell? (J b (o+j))=some v/\w.frozen? (J b (o+j))=false:=by
 obtain⟨D,Y⟩:=h j hj;obtain⟨v,hv⟩:=Option.isSome_iff_exists.1 D;exact⟨v,hv,Y⟩
theorem row_cap {W:World}{B e z n c:Nat}{a:Option Addr}{xs:List Value}(h:W.ownsRow B e z (.slice a n c) n xs):n<=c:=by
 rcases h.2 with⟨D,Y⟩|⟨g,cap,xA,D,_,_,h4,_⟩
 ·omega
 ·simp only[Value.slice.injEq,true_and] at D;rw[D.2];exact h4
theorem bx_size {W:World}{b:Nat}{v:Value}{vs:List Value}(h:Bx W b (v::vs)):b<W.heap.size:=yL W _ (A h 0 rfl)
section
variable {B b4:Nat} {w V V':World} {v:Value} {l:List Int} {m m' n:Int} {vq vg:Value} {q:List Od} {es:List Ev}
theorem gd_call (h:GD B b4 w v l m n vq q vg es V)(hB:B<w.heap.size)(hE:zP B V v l m' V'):GD B b4 w v l m' n vq q vg es V':=by
 have D:=h.e4;have Y:=h.l4
 have xr:∀ {α:Type} {f:α->List Value} {sz C:Nat} {u:Value} {x:List α},OwnR f sz C V u x->w.heap.size<C->x ≠ []->u.ownBlock≠some B:=fun Q hC hx e=>by
  obtain⟨g,h3,h4,h5⟩:=gU Q hx;rw[h3] at e;have:=Option.some.inj e;omega
 exact⟨⟨hE.1,zw h.s.2 hE.2⟩,bx_gr h.r hE.2 (by omega) (by omega),bx_gr h.k hE.2 Y (by omega),fX h.oq hE.2 (xr h.oq (by omega)),fX h.og hE.2 (xr h.og (by omega)),D,yK Y hE.2.size,h.qb⟩
theorem gd_make {W2:World}{m2:Int}(hs:zP B w v l m2 W2)(hr:Bx W2 w.heap.size [H 0,.slice none 0 0])(hk:Bx W2 b4 [H n,vq])(hq:OwnR Od.vs 6 (w.heap.size+1) W2 vq q)(h4:w.heap.size<b4)(hl4:b4<W2.heap.size)(hqb:q ≠ []->∀b,vq.ownBlock=some b->b<b4)(hB:B<w.heap.size)(X:W2.grownBy V (some B))(hsv:Src B V v l m)(hog:OwnR Ev.vs 14 (b4+1) V vg es):GD B b4 w v l m n vq q vg es V:=
 ⟨⟨hsv,zw hs.2 X⟩,bx_gr hr X (by omega) (by omega),bx_gr hk X hl4 (by omega),fX hq X (fun xr e=>by
  obtain⟨g,h3,h5,h6⟩:=gU hq xr;rw[h3] at e;have:=Option.some.inj e;omega),hog,h4,yK hl4 X.size,hqb⟩
theorem gd_alloc (h:GD B b4 w v l m n vq q vg es V)(ob:Obj):GD B b4 w v l m n vq q vg es (V.alloc ob):=by
 have D:=h.e4;have Y:=h.l4;have E:yn V (V.alloc ob):=mn _ _;exact⟨fD h.s ob,zg h.r E (by omega),zg h.k E Y,iX h.oq E ya,iX h.og E ya,D,yK Y E.size,h.qb⟩
theorem gd_box {bb:Nat}(h:GD B b4 w v l m n vq q vg es V)(hv:l ≠ []->∃k,v.ownBlock=some k/\k<w.heap.size)(hB:B<w.heap.size)(hbb:b4<bb)(hog:OwnR Ev.vs 14 (bb+1) V vg es)(j:Nat)(u:Value):GD B b4 w v l m n vq q vg es (V.setCell (J bb j) u)/\OwnR Ev.vs 14 (bb+1) (V.setCell (J bb j) u) vg es:=by
 have D:=h.e4;have hz:(V.setCell (J bb j) u).heap.size=V.heap.size:=by simp[World.setCell]
 have X:V.grownBy (V.setCell (J bb j) u) (some bb):=dX V (J bb j) u
 have xr:es ≠ []->vg.ownBlock≠some bb:=fun hn e=>by
  obtain⟨g,h3,h4,h5⟩:=gU hog hn;rw[h3] at e;have:=Option.some.inj e;omega
 refine⟨⟨eQ (b:=bb) (o:=j) hv h.s hB (by omega) [u],fg h.r (by omega),fg h.k (by omega),fX h.oq X (fun hn e=>by have:=h.qb hn bb e;omega),fX h.og X xr,D,by rw[hz];exact h.l4,h.qb⟩,fX hog X xr⟩
end
theorem gd_sets {bb:Nat}:∀(us:List Value) (o:Nat) {B b4:Nat} {w V:World} {v:Value} {l:List Int} {m n:Int} {vq vg:Value} {q:List Od} {es:List Ev},GD B b4 w v l m n vq q vg es V->(l ≠ []->∃k,v.ownBlock=some k/\k<w.heap.size)->B<w.heap.size->b4<bb->(es ≠ []->vg.ownBlock≠some bb)->GD B b4 w v l m n vq q vg es (V.setCells bb o us)
 | [],_,_,_,_,_,_,_,_,_,_,_,_,_,h,_,_,_,_=>h
 | u::r,o,B,b4,w,V,v,l,m,n,vq,vg,q,es,h,hv,hB,hbb,xr=>by
  have D:=h.e4;have hz:(V.setCell (J bb o) u).heap.size=V.heap.size:=by simp[World.setCell]
  have X:V.grownBy (V.setCell (J bb o) u) (some bb):=dX V (J bb o) u;exact gd_sets r (o+1) ⟨eQ (b:=bb) (o:=o) hv h.s hB (by omega) [u],fg h.r (by omega),fg h.k (by omega),fX h.oq X (fun hn e=>by have:=h.qb hn bb e;omega),fX h.og X xr,D,by rw[hz];exact h.l4,h.qb⟩ hv hB hbb xr
structure GE (B b4 eb:Nat) (w:World) (v:Value) (l:List Int) (m n:Int) (vq:Value) (q:List Od) (vg:Value) (es:List Ev) (e:Ev) (V:World):Prop where
 d:GD B b4 w v l m n vq q vg es V
 x:Bx V eb e.vs
 lt:b4<eb
 sz:eb<V.heap.size
 ne:es ≠ []->vg.ownBlock≠some eb
theorem gD {B b4 eb:Nat}{w V V':World}{v:Value}{l:List Int}{m m' n:Int}{vq vg:Value}{q:List Od}{es:List Ev}{e:Ev}(h:GE B b4 eb w v l m n vq q vg es e V)(hB:B<w.heap.size)(hE:zP B V v l m' V'):GE B b4 eb w v l m' n vq q vg es e V':=
 ⟨gd_call h.d hB hE,bx_gr h.x hE.2 h.sz (by have:=h.lt;have:=h.d.e4;omega),h.lt,yK h.sz hE.2.size,h.ne⟩
theorem ge_set {B b4 eb:Nat}{w V:World}{v:Value}{l:List Int}{m n:Int}{vq vg:Value}{q:List Od}{es:List Ev}{e e':Ev}(h:GE B b4 eb w v l m n vq q vg es e V)(hv:l ≠ []->∃k,v.ownBlock=some k/\k<w.heap.size)(hB:B<w.heap.size){j:Nat}{u:Value}(hj:j<14)(he:e.vs.set j u=e'.vs):GE B b4 eb w v l m n vq q vg es e' (V.setCell (J eb j) u):=
 ⟨gd_sets [u] j h.d hv hB h.lt h.ne,he ▸ fi h.x (by rw[Ev.len];exact hj),h.lt,by simpa[World.setCell] using h.sz,h.ne⟩
theorem ge_all {B b4 eb:Nat}{w V:World}{v:Value}{l:List Int}{m n:Int}{vq vg:Value}{q:List Od}{es:List Ev}{e:Ev}(h:GE B b4 eb w v l m n vq q vg es e V)(hv:l ≠ []->∃k,v.ownBlock=some k/\k<w.heap.size)(hB:B<w.heap.size)(e':Ev):GE B b4 eb w v l m n vq q vg es e' (V.setCells eb 0 e'.vs):=
 ⟨gd_sets e'.vs 0 h.d hv hB h.lt h.ne,zq h.x (by rw[Ev.len,Ev.len]),h.lt,by rw[fO];exact h.sz,h.ne⟩
theorem own_other {α:Type}{f:α->List Value}{sz C g o:Nat}{V:World}{u:Value}{x:List α}{us:List Value}(h:OwnR f sz C V u x)(xr:x ≠ []->u.ownBlock≠some g):OwnR f sz C (V.setCells g o us) u x:=by
 obtain⟨a,cap,rfl,hl,h⟩:=h;refine⟨a,cap,rfl,hl,fun hn=>?_⟩;obtain⟨b,rfl,h0,D,Y,h3⟩:=h hn;have E:b≠g:=fun e=>xr hn (by rw[e];rfl);exact⟨b,rfl,h0,by rw[fO];exact D,fun i c hc=>World.rangeAt_setCells_apart (Y i c hc) _ _ _ (.inl E),xc h3 _ _ _⟩
theorem gd_put {B b4 g gc k:Nat}{w V:World}{v:Value}{l:List Int}{m n:Int}{vq:Value}{q:List Od}{es:List Ev}(h:GD B b4 w v l m n vq q (.slice (some (J g 0)) es.length gc) es V)(hv:l ≠ []->∃k,v.ownBlock=some k/\k<w.heap.size)(hB:B<w.heap.size)(hk:k<es.length)(e:Ev):GD B b4 w v l m n vq q (.slice (some (J g 0)) es.length gc) (es.set k e) (V.setCells g (k*14) e.vs):=by
 have D:=h.e4;have xr:es ≠ []:=by intro h0;rw[h0] at hk;simp at hk
 obtain⟨a1,c1,e1,hl,Y⟩:=h.og;obtain⟨g',e2,h3,h4,h5,h6⟩:=Y xr;simp only[Value.slice.injEq,true_and] at e1;obtain⟨rfl,rfl⟩:=e1;obtain rfl:g=g':=by have:=Option.some.inj e2;simpa using congrArg Addr.block this
 have km:(es.set k e).length=es.length:=List.length_set;refine⟨eQ (b:=g) (o:=k*14) hv h.s hB (by omega) e.vs,dU h.r (et g _ (by omega) _ _ _),dU h.k (et g _ (by omega) _ _ _),own_other h.oq (fun hn e=>by have:=h.qb hn g e;omega),⟨_,_,by rw[km],by rw[km];exact hl,fun _=>⟨g,rfl,h3,by rw[fO];exact h4,fun i c hc=>?_,by rw[km];exact xc h6 _ _ _⟩⟩,D,by rw[fO];exact h.l4,h.qb⟩
 by_cases hik:i=k
 ·subst hik;rw[List.getElem?_set_self hk] at hc;cases hc;rw[Nat.zero_add];refine yY V g (i*14) e.vs (fun j hj=>?_);rw[Ev.len] at hj;have:=h6 (i*14+j) (by omega);rwa[Nat.zero_add] at this
 ·rw[yX (fun e=>hik e.symm)] at hc;refine World.rangeAt_setCells_apart (h5 i c hc) _ _ _ ?_;rw[Ev.len,Ev.len];omega
theorem fit_parts {e:Ev}(h:e.fit):Mi e.kind/\DrIn e.cmd/\e.cmd.g.size<=maxLen/\Mi e.id/\Mi e.other/\Mi e.qty/\Mi e.price/\Mi e.reason:=⟨h.k,⟨h.n 1,h.n 2,h.n 3,h.n 4,h.n 5,h.n 6,h.p⟩,h.g,h.n 9,h.n 10,h.n 11,h.n 12,h.n 13⟩
theorem gd_fin {B b4:Nat}{w V:World}{v:Value}{l:List Int}{m n:Int}{vq vg:Value}{q:List Od}{es:List Ev}(h:GD B b4 w v l m n vq q vg es V)(hv:l ≠ []->∃k,v.ownBlock=some k/\k<w.heap.size)(hB:B<w.heap.size):OwnR Od.vs 6 (w.heap.size+1) (V.setCells w.heap.size 0 [H n,vq]) vq q/\OwnR Ev.vs 14 (w.heap.size+1) (V.setCells w.heap.size 0 [H n,vq]) vg es/\w.grownBy (V.setCells w.heap.size 0 [H n,vq]) (some B)/\Bx (V.setCells w.heap.size 0 [H n,vq]) w.heap.size [H n,vq]:=by
 have D:=h.e4
 have hk:∀ {α:Type} {f:α->List Value} {sz C:Nat} {u:Value} {x:List α},OwnR f sz C V u x->w.heap.size<C->OwnR f sz C (V.setCells w.heap.size 0 [H n,vq]) u x:=fun {α f sz C u x} Q hC=>by
  have hn:∀(hg:World),OwnR f sz C hg u x->x ≠ []->u.ownBlock≠some w.heap.size:=fun hg Q hx e=>by
   obtain⟨g,h3,h4,h5⟩:=gU Q hx;rw[h3] at e;have:=Option.some.inj e;omega
  have o1:=fX Q (dX V (yq w 0) (H n)) (hn _ Q);exact fX o1 (dX _ (yq w 1) vq) (hn _ o1)
 exact⟨hk h.oq (by omega),iJ (hk h.og (by omega)) (by omega),(eQ (b:=w.heap.size) (o:=0) hv h.s hB ya [H n,vq]).2,zq h.r rfl⟩
theorem stE_ne {n:Int}{q:List Od}{c:Cm}:stE n q c ≠ []:=by
 intro h;rw[stE] at h;split at h
 ·next hr =>
  split at h
  ·simp[accE] at h
  ·split at h
   ·next D Y =>
    obtain⟨k,o,e1,e2⟩:=ref_id hr (.inl Y);rw[e1] at h;simp[e2] at h
   ·split at h <;> simp at h
 ·simp at h
theorem stE_short {n:Int}{q:List Od}{c:Cm}(h:GoodL q):(stE n q c).length<=100:=stE_len h
theorem group_drawn (B:Nat)(v:Value)(l:List Int)(m:Int)(w:World)(h:Src B w v l m)(hm:m<=1000) :
  Calls Tryz.prog 23 #[I B 0] w fun x w'=>∃n vq vg q es,x=ym (.tuple #[.agg #[H n,vq],vg])/\OwnR Od.vs 6 (w.heap.size+1) w' vq q/\SlOk vq/\okS n q=true/\(∀o∈q,o.tag.size<=maxLen)/\OwnR Ev.vs 14 (w.heap.size+1) w' vg es/\(∀e∈es,e.fit)/\es.length<=100/\(∃ga gc,vg = .slice ga es.length gc/\es.length<=gc)/\w.grownBy w' (some B):=by
 have HV:=Z (src_far h);have hB:=src_lt h;have aR:Hid (Bx (w.alloc (mq #[H 0,.slice none 0 0] 27)) w.heap.size [H 0,.slice none 0 0]):=zn w [H 0,.slice none 0 0] 27;have HS0:=Z (fD (eS h) (mq #[H 0,.slice none 0 0] 27));have qJ:=zf w (mq #[H 0,.slice none 0 0] 27);have hsf:=sfl;clear h;go_enter Tryz.func23,Tryz.ntmps23;refine ms fun mR xE=>?_;go_wp2_with fail;refine U xE _ _ ?_;clear xE;change Hid (Bx (w.alloc (mq #[H 0,.slice none 0 0] 27)) w.heap.size [H 0,.slice none 0 0]) at aR;generalize (w.alloc (mq #[H 0,.slice none 0 0] 27))=W0 at aR HS0 qJ |-;refine ms fun mR xE=>?_;go_wp2_with fail;refine(book_any B v l m W0 (U HS0).1 (by omega)).mono ?_;rintro x W1 ⟨n,vq,q,rfl,hoq,vD,htg,uR,hsl,hsr⟩;have qe:=Z (bx_gr (U aR) uR (by omega) (by omega));have oY:Hid (zP B w v l (m+1400) W1):=⟨hsr,zw (U HS0).2 uR⟩;have xJ:w.heap.size<W1.heap.size:=by have:=uR.size;omega
 rw[qJ] at hoq;have HOQ:=Z hoq;have kt:=Z vD;have pz:=Z htg;have jg:Hid (SlOk vq):=Z hsl;have HQB:Hid (q ≠ []->∀b,vq.ownBlock=some b->b<W1.heap.size):=Z (fun xr b E=>by obtain⟨g,h3,h4,h5⟩:=gU hoq xr;rw[h3] at E;cases E;exact h5);clear uR hsr hoq vD htg hsl aR HS0 qJ;have HA1:Hid (yn W1 (W1.alloc (mq #[H n,vq] 27))):=mn _ _;have aQ:Hid (Bx (W1.alloc (mq #[H n,vq] 27)) W1.heap.size [H n,vq]):=zn W1 [H n,vq] 27;have qf:=Z (fD (U oY) (mq #[H n,vq] 27));obtain⟨qa,qn,qc,hvq⟩:∃a k c,vq = .slice a k c:=by rcases U jg with h|⟨a,k,c,h⟩ <;> exact⟨_,_,_,h⟩
 subst hvq;go_wp2_with fail;refine U xE _ _ ?_;clear xE;have qM:=Z (zg (U qe) (U HA1) xJ);have pR:=Z (iX (U HOQ) (U HA1) ya);have ug:=zf W1 (mq #[H n,.slice qa qn qc] 27);generalize (W1.alloc (mq #[H n,.slice qa qn qc] 27))=W2 at HA1 aQ qf qM pR ug |-;generalize W1.heap.size=b4 at aQ xJ ug HQB |-;have xy:b4<W2.heap.size:=by omega
 have HZ2:=Z ug;clear HA1 qe HOQ oY ug;have hOk:=okB_back (U kt);have qQ:=Z (okB_good hOk);have hn1:=hOk.n1;have hn2:=hOk.n2
 have cy:Hid (∀x∈q,x.side=1\/x.side=2):=Z (fun x hx=>by
  have:=hOk.ord x hx;simp only[ordB,betB,xf,xg] at this;omega)
 clear hOk;have htm:Int.tmod n 40=n % 40:=Int.tmod_eq_emod_of_nonneg (by omega);have hwm:IntKind.i64.wrap (n % 40)=n % 40:=by rw[IntKind.wrap_i64];omega
 have qZ:Hid (∀V,W2.grownBy V (some B)->V.cell? (J b4 0)=some (H n)/\V.cell? (J b4 1)=some (.slice qa qn qc)):=Z (fun V hV=>by
  have D:=bx_gr (U aQ) hV (by omega) (by omega);exact⟨A D 0 rfl,A D 1 rfl⟩)
 have xR:Hid (W2.grownBy W2.drew (some B)):=eF ((Below.refl _ _).drew) ya;have HSD2:Hid (Src B W2.drew v l (m+1400)):=(fY (U qf) 1).1;have HCM:Hid (∀V ids,Src B V v l (m+1400)->0<=ids->ids<=1000->Calls Tryz.prog 30 #[I B 0,H ids] V fun e w'=>∃c:Cm,e=ym (.agg c.vs.toArray)/\DrOk c/\DrIn c/\zP B V v l (m+1400+100) w'):=Z (fun V ids hs h0 D=>cmd_drawn B v l (m+1400) ids V hs (by omega) h0 D);have uP:Hid (∀(c:Cm) V,c.g.size<=20->W2.grownBy V (some B)->Calls Tryz.prog 16 #[.agg #[H n,.slice qa qn qc],cmV c] V fun e w'=>∃vq vg,e=ym (.tuple #[.agg #[H (stN n q c),vq],vg])/\ORow w' V.heap.size vq (stL n q c)/\ERow w' V.heap.size vg (stE n q c)/\yn V w'):=Z (fun c V hc hV=>l04Step_any n _ q c V (ownR_rd (fX (U pR) hV (fun xr e=>by have:=U HQB xr B e;obtain⟨g,h3,h4,h5⟩:=gU (U pR) xr;rw[h3] at e;cases e;omega))) (U jg) (U qQ) (U cy) (by omega) (by omega) (by unfold maxLen;omega));refine ms fun mR xE=>?_;go_wp2_with fail;obtain ⟨x0,x1⟩:=q0_2 (U aQ) rfl;have m1:¬ b4=W2.heap.size:=by omega
 have m2:¬ W2.heap.size=b4:=by omega
 have HSA:Hid (∀ob,Src B (W2.drew.alloc ob) v l (m+1400)):=Z (fun ob=>(fD (eS (U HSD2)) ob).1);refine(fun(HT:Hid (∀(b5:Nat) (ck F ct O cq ci:Int) (cp:Nat) (oS:ByteArray) (ba:Option Addr) (bc:Nat) (ga:Option Addr) (gc:Nat) (W3:World),DrOk ⟨ck,F,ct,O,cq,ci,cp,oS⟩->DrIn ⟨ck,F,ct,O,cq,ci,cp,oS⟩->GD B b4 w v l (m+1400+100) n (.slice qa qn qc) q (.slice ga (stE n q ⟨ck,F,ct,O,cq,ci,cp,oS⟩).length gc) (stE n q ⟨ck,F,ct,O,cq,ci,cp,oS⟩) W3->(stE n q ⟨ck,F,ct,O,cq,ci,cp,oS⟩).length<=gc->mR ((?A:Nat->Int->Int->Int->Int->Int->Int->Nat->ByteArray->Option Addr->Nat->Option Addr->Nat->Act) b5 ck F ct O cq ci cp oS ba bc ga gc) W3))=>?main) ?ht
 case main =>
  go_region_held3 (fun w'=>w'.cell? (J b4 0)=some (H n)/\w'.cell? (J b4 1)=some (.slice qa qn qc)) (first|exact U qZ _ bU|exact U qZ _ (zw bU (fh _ _ _))|exact U qZ _ hq|exact U qZ _ (zw hq (fh _ _ _))|exact U qZ _ (U xR)|exact U qZ _ (zw (U xR) (fh _ _ _))|go_keep) (first|(go_at_call 30;refine(U HCM _ _ (by first|exact U HSD2|exact U HSA _) (by omega) (by omega)).mono ?_;rintro x Wc ⟨⟨ck,F,ct,O,cq,ci,cp,oS⟩,rfl,hdo,hdi,hE⟩;unfold Cm.vs;simp only;have hq:W2.grownBy Wc (some B):=(by first|exact zw (U xR) hE.2|exact zw (zw (U xR) (fh _ _ _)) hE.2);have y0:=(U qZ _ hq).1;have y1:=(U qZ _ hq).2;have n1:¬ b4=Wc.heap.size:=(by have:=hq.size;omega);have n2:¬ Wc.heap.size=b4:=(by omega);try (have ua:Bx Wc W2.heap.size [H 0,.slice none 0 0]:=bx_gr (zn W2.drew [H 0,.slice none 0 0] 27) hE.2 (by simp) (by show W2.heap.size≠B;omega);obtain ⟨u0,u1⟩:=q0_2 ua rfl;obtain ⟨f0,f1⟩:=r0_2 ua rfl;have ul:=bx_size ua))|(go_at_call 16;refine(U uP ⟨ck,F,ct,O,cq,ci,cp,oS⟩ _ hdo.1 (by first|exact hq|exact zw hq (fh _ _ _))).mono ?_;rintro x Wd ⟨vb,vg,rfl,jX,hog,aX⟩;obtain⟨ba,bc,rfl⟩:=row_any jX;obtain⟨ga,gc,rfl⟩:=row_any hog;have bU:W2.grownBy Wd (some B):=(by first|exact zw hq (eF aX ya)|exact zw (zw hq (fh _ _ _)) (eF aX ya));have z0:=(U qZ _ bU).1;have z1:=(U qZ _ bU).2;have o1:¬ b4=Wd.heap.size:=(by have:=bU.size;omega);have o2:¬ Wd.heap.size=b4:=(by omega);try (first|(have ub:=zg (zn Wc [H 0,.slice none 0 0] 27) aX (by simp);obtain ⟨q0,q1⟩:=q0_2 ub rfl;obtain ⟨g0,g1⟩:=r0_2 ub rfl)|(have ub:=zg ua aX ul;obtain ⟨q0,q1⟩:=q0_2 ub rfl;obtain ⟨g0,g1⟩:=r0_2 ub rfl))))
  all_goals
   have hl100:=stE_short (n:=n) (c:=⟨ck,F,ct,O,cq,ci,cp,oS⟩) (U qQ);have hro:=il Ev.len (by omega) hog;have hcs:=hq.size;have hb4c:b4<Wc.heap.size:=by omega
  ·have pU:Src B Wd v l (m+1400+100):=ip hE.1 (eF (G:=none) aX ya) (by simp) (fun xr e=>by obtain⟨k,D,_⟩:=U HV xr;rw[D] at e;cases e);have bd:=gd_alloc (gd_make (U qf) (U qM) (U aQ) (U pR) xJ xy (U HQB) hB bU pU (iJ hro (by omega))) (mq #[H (stN n q ⟨ck,F,ct,O,cq,ci,cp,oS⟩),.slice ba (stL n q ⟨ck,F,ct,O,cq,ci,cp,oS⟩).length bc] 27);go_wp2_with fail;generalize Wd.heap.size=b5;exact U HT b5 ck F ct O cq ci cp oS ba bc ga gc _ hdo hdi bd (row_cap hog)
  ·have pU:Src B Wd v l (m+1400+100):=ip (fD (eS hE.1) (mq #[H 0,.slice none 0 0] 27)).1 (eF (G:=none) aX ya) (by simp) (fun xr e=>by obtain⟨k,D,_⟩:=U HV xr;rw[D] at e;cases e);have hzz:=zf Wc (mq #[H 0,.slice none 0 0] 27);rw[hzz] at hro;have g0:=gd_make (U qf) (U qM) (U aQ) (U pR) xJ xy (U HQB) hB bU pU (iJ hro (by omega));have g1:=gd_box g0 (U HV) hB hb4c hro 0 (H (stN n q ⟨ck,F,ct,O,cq,ci,cp,oS⟩));have g2:=gd_box g1.1 (U HV) hB hb4c g1.2 1 (.slice ba (stL n q ⟨ck,F,ct,O,cq,ci,cp,oS⟩).length bc);have bd:=g2.1;clear g0 g1 g2 hzz;go_wp2_with fail;generalize Wc.heap.size=b5 at bd |-;exact U HT b5 ck F ct O cq ci cp oS ba bc ga gc _ hdo hdi bd (row_cap hog)
  ·have pU:Src B Wd v l (m+1400+100):=ip hE.1 (eF (G:=none) aX ya) (by simp) (fun xr e=>by obtain⟨k,D,_⟩:=U HV xr;rw[D] at e;cases e);have hzz:W2.heap.size+1<=Wc.heap.size:=by have:=hE.2.size;simpa using this
   have hro2:=iJ (B':=W2.heap.size+1) hro hzz;have g0:=gd_make (U qf) (U qM) (U aQ) (U pR) xJ xy (U HQB) hB bU pU (iJ hro2 (by omega));have g1:=gd_box g0 (U HV) hB xy hro2 0 (H (stN n q ⟨ck,F,ct,O,cq,ci,cp,oS⟩));have g2:=gd_box g1.1 (U HV) hB xy g1.2 1 (.slice ba (stL n q ⟨ck,F,ct,O,cq,ci,cp,oS⟩).length bc);have bd:=g2.1;clear g0 g1 g2 hzz;go_wp2_with fail;generalize W2.heap.size=b5 at bd |-;exact U HT b5 ck F ct O cq ci cp oS ba bc ga gc _ hdo hdi bd (row_cap hog)
 case ht =>
  refine Z (fun b5 ck F ct O cq ci cp oS ba bc ga gc W3 hdo hdi bd hcp=>?_);have qm:=Z bd;have HFT:=Z (stE_fit (okB_back (U kt)) (drIn_fit hdo hdi));have HNE:=Z (stE_ne (n:=n) (q:=q) (c:=⟨ck,F,ct,O,cq,ci,cp,oS⟩));have HLN:=Z (stE_short (n:=n) (c:=⟨ck,F,ct,O,cq,ci,cp,oS⟩) (U qQ));generalize stE n q ⟨ck,F,ct,O,cq,ci,cp,oS⟩=es at qm HFT HLN HNE hcp |-;have HCP:=Z hcp;clear bd hdo hdi hcp;refine U xE _ _ ?_;clear xE;refine ms fun mR xE=>?_;go_wp2_with fail;refine(chance_any B v l (m+1400+100) 3 W3 (U qm).s.1 (by omega) (by omega) (by omega)).mono ?_;rintro x V1 ⟨cb,rfl,hE⟩;have ch:=Z (gd_call (U qm) hB hE);clear hE qm;cases cb
  ·go_wp2_with fail;refine U xE _ _ ?_;clear xE;have bJ:=Z (U ch);have HFX:=Z (U HFT);have HLX:=Z (U HLN);obtain ⟨k0,k1⟩:=q0_2 (U bJ).k rfl;obtain ⟨r0,r1⟩:=q0_2 (U bJ).r rfl;obtain ⟨f0,f1⟩:=r0_2 (U bJ).r rfl;have ca:=Z (gd_fin (U bJ) (U HV) hB);go_wp2_with fail;change bodyPost _ _ _ _ _ (V1.setCells w.heap.size 0 [H n,.slice qa qn qc]);generalize V1.setCells w.heap.size 0 [H n,.slice qa qn qc]=WF at ca |-;obtain ⟨d0,d1⟩:=q0_2 (U ca).2.2.2 rfl;refine bodyPost_ret (by simp[results,Tryz.results23,go_sem,d0,d1];try rfl) rfl ?_;exact⟨n,_,_,q,es,rfl,(U ca).1,U jg,U kt,U pz,(U ca).2.1,U HFX,U HLX,⟨_,_,rfl,U HCP⟩,(U ca).2.2.1⟩
  ·have jp:1<=es.length:=by have:=U HNE;cases es with|nil=>exact absurd rfl this|cons _ _=>simp
   have vV:=U HLN;go_wp2_with fail;refine(zO B v l (m+1400+100+3) es.length V1 (U ch).s.1 (by omega) (by omega) (by omega)).mono ?_;rintro x V2 ⟨y,rfl,jj,kR,hE⟩;have uj:=Z (gd_call (U ch) hB hE);clear hE ch;obtain⟨k,rfl⟩:=Int.eq_ofNat_of_zero_le jj;have oE:k<es.length:=by omega
   obtain⟨e0,oT⟩:∃e,es[k]? = some e:=⟨_,yI oE⟩;have HF0:=Z (U HFT e0 (yP oT))
   have jF:Hid (∃g,ga=some (J g 0)/\b4+1<=g/\g<V2.heap.size/\(∀i c,es[i]? = some c->V2.rangeAt g (0+i*14) (Ev.vs c))/\V2.there g 0 (es.length*14)):=Z (by
    obtain⟨a1,c1,e1,-,D⟩:=(U uj).og;simp only[Value.slice.injEq,true_and] at e1;obtain⟨rfl,rfl⟩:=e1;exact D (U HNE))
   obtain⟨g,rfl,pZ,uD,uR,pC⟩:=U jF;obtain⟨g0,g1,g2,g3,g4,g5,g6,g7,g8,g9,jL,jB,vY,kI⟩:=ev_cells (uR k e0 oT);simp only[Nat.zero_add] at g0 g1 g2 g3 g4 g5 g6 g7 g8 g9 jL jB vY kI;have HGE:Hid (GE B b4 V2.heap.size w v l (m+1400+100+3+3) n (.slice qa qn qc) q (.slice (some (J g 0)) es.length gc) es e0 (V2.alloc (mq (yv e0.kind e0.cmd.k e0.cmd.s e0.cmd.t e0.cmd.l e0.cmd.q e0.cmd.i e0.cmd.p e0.cmd.g e0.id e0.other e0.qty e0.price e0.reason).toArray 37))):=Z ⟨gd_alloc (U uj) _,zn V2 (yv e0.kind e0.cmd.k e0.cmd.s e0.cmd.t e0.cmd.l e0.cmd.q e0.cmd.i e0.cmd.p e0.cmd.g e0.id e0.other e0.qty e0.price e0.reason) 37,(U uj).l4,by simp,fun _ e=>by have:=Option.some.inj e;simp at this;omega⟩;have uL:(k:Int)<es.length:=by omega
   have hgV:g<V2.heap.size:=uD;clear uR pC jF uj jj kR;go_wp2_with fail;generalize (V2.alloc (mq (yv e0.kind e0.cmd.k e0.cmd.s e0.cmd.t e0.cmd.l e0.cmd.q e0.cmd.i e0.cmd.p e0.cmd.g e0.id e0.other e0.qty e0.price e0.reason).toArray 37))=V3 at HGE |-;generalize V2.heap.size=eb at HGE hgV uD |-;clear g0 g1 g2 g3 g4 g5 g6 g7 g8 g9 jL jB vY kI;refine(zO B v l (m+1400+100+3+3) 8 V3 (U HGE).d.s.1 (by omega) (by omega) (by omega)).mono ?_;rintro x V4 ⟨sel,rfl,qJ,hs8,hE⟩;rename_i K26 hK26 K8 hK8 K9 hK9;have HK26:=Z hK26;clear hK26;have xU:=Z (gD (U HGE) hB hE);clear hE HGE
   have un:Hid (∀(u1 u3 u5 u9 u10 u11 u12 u13 u14 u15 u16 u17 u18 u19 u20 u21 u22 u23 u24 u25 u26 u27 u28 u29 u30 u31 u32 u33 u34 u35 u36 u37 u38 u39 u40 u41 u42 u43 u44 u45 u46 u47 u48 u49 u50 u51 u52 u53 u54 u55 u56 u57 u58 u59 u60 u61 u62 u63 u64 u65 u66 u67 u68 u69 u70 u71 u72 u73 u74 u75 u76 u77 u78 u79 u80 u81 u82 u83 u84 u85 u86 u87 u88 u89 u90 u91 u92 u93 u94 u95 u96 u97 u98 u99 u100 u101 u102:Value) (e':Ev) (mm:Int) (V:World),GE B b4 eb w v l mm n (.slice qa qn qc) q (.slice (some (J g 0)) es.length gc) es e' V->e'.fit->K26 { tmps:=#[I B 0,u1,yp w 0,u3,I b4 0,u5,.slice (some (J g 0)) es.length gc,H k,I eb 0,u9,u10,u11,u12,u13,u14,u15,u16,u17,u18,u19,u20,u21,u22,u23,u24,u25,u26,u27,u28,u29,u30,u31,u32,u33,u34,u35,u36,u37,u38,u39,u40,u41,u42,u43,u44,u45,u46,u47,u48,u49,u50,u51,u52,u53,u54,u55,u56,u57,u58,u59,u60,u61,u62,u63,u64,u65,u66,u67,u68,u69,u70,u71,u72,u73,u74,u75,u76,u77,u78,u79,u80,u81,u82,u83,u84,u85,u86,u87,u88,u89,u90,u91,u92,u93,u94,u95,u96,u97,u98,u99,u100,u101,u102],defers:=[] } V):=Z (by
    intro u1 u3 u5 u9 u10 u11 u12 u13 u14 u15 u16 u17 u18 u19 u20 u21 u22 u23 u24 u25 u26 u27 u28 u29 u30 u31 u32 u33 u34 u35 u36 u37 u38 u39 u40 u41 u42 u43 u44 u45 u46 u47 u48 u49 u50 u51 u52 u53 u54 u55 u56 u57 u58 u59 u60 u61 u62 u63 u64 u65 u66 u67 u68 u69 u70 u71 u72 u73 u74 u75 u76 u77 u78 u79 u80 u81 u82 u83 u84 u85 u86 u87 u88 u89 u90 u91 u92 u93 u94 u95 u96 u97 u98 u99 u100 u101 u102 e' mm V hge qV;have jR:=Z hge;have HFW:=Z qV;clear hge qV xU;refine U HK26 _ _ ?_;clear HK26 hK9 hK8;obtain ⟨x0,x1,x2,x3,x4,x5,x6,x7,x8,x9,kS,kT,kU,kV⟩:=q0_14 (U jR).x rfl
    obtain⟨g',ab,uM,jv,uR,pC⟩:∃g',(some (J g 0):Option Addr)=some (J g' 0)/\b4+1<=g'/\g'<V.heap.size/\(∀i c,es[i]? = some c->V.rangeAt g' (0+i*14) (Ev.vs c))/\V.there g' 0 (es.length*14):=by
     obtain⟨a1,c1,e1,-,D⟩:=(U jR).d.og;simp only[Value.slice.injEq,true_and] at e1;obtain⟨rfl,rfl⟩:=e1;exact D (U HNE)
    obtain rfl:g=g':=by have:=Option.some.inj ab;simpa using congrArg Addr.block this
    have qq:V.there g (k*14) 14:=fun j hj=>by have:=pC (k*14+j) (by omega);rwa[Nat.zero_add] at this
    obtain⟨c0,y0,z0⟩:=fH qq 0 (by omega);obtain⟨c1,y1,z1⟩:=fH qq 1 (by omega);obtain⟨c2,y2,z2⟩:=fH qq 2 (by omega);obtain⟨c3,y3,z3⟩:=fH qq 3 (by omega);obtain⟨c4,y4,z4⟩:=fH qq 4 (by omega);obtain⟨c5,y5,z5⟩:=fH qq 5 (by omega);obtain⟨c6,y6,z6⟩:=fH qq 6 (by omega);obtain⟨c7,y7,z7⟩:=fH qq 7 (by omega);obtain⟨c8,y8,z8⟩:=fH qq 8 (by omega);obtain⟨c9,y9,z9⟩:=fH qq 9 (by omega);obtain⟨c10,dO,jD⟩:=fH qq 10 (by omega);obtain⟨c11,y11,ko⟩:=fH qq 11 (by omega);obtain⟨c12,y12,kp⟩:=fH qq 12 (by omega);obtain⟨c13,y13,kq⟩:=fH qq 13 (by omega);rw[Nat.add_zero] at y0 z0;have HGP:=Z (gd_put (U jR).d (U HV) hB oE e');clear ab uR pC qq jR;go_wp2_with fail;change mR _ (V.setCells g (k*14) e'.vs);refine U xE _ _ ?_;clear xE x0 y0 z0 x1 y1 z1 x2 y2 z2 x3 y3 z3 x4 y4 z4 x5 y5 z5 x6 y6 z6 x7 y7 z7 x8 y8 z8 x9 y9 z9 kS dO jD kT y11 ko kU y12 kp kV y13 kq;have bJ:=Z (U HGP);generalize V.setCells g (k*14) e'.vs=VP at bJ |-
    have HFX:Hid (∀e∈es.set k e',e.fit):=Z (fun e he=>by
     rcases List.mem_or_eq_of_mem_set he with h|h
     ·exact U HFT e h
     ·rw[h];exact U HFW)
    have HLX:Hid ((es.set k e').length<=100):=Z (by rw[List.length_set];exact U HLN);clear HGP;obtain ⟨k0,k1⟩:=q0_2 (U bJ).k rfl;obtain ⟨r0,r1⟩:=q0_2 (U bJ).r rfl;obtain ⟨f0,f1⟩:=r0_2 (U bJ).r rfl;have ca:=Z (gd_fin (U bJ) (U HV) hB);go_wp2_with fail;change bodyPost _ _ _ _ _ (VP.setCells w.heap.size 0 [H n,.slice qa qn qc]);generalize VP.setCells w.heap.size 0 [H n,.slice qa qn qc]=WF at ca |-;obtain ⟨d0,d1⟩:=q0_2 (U ca).2.2.2 rfl;refine bodyPost_ret (by simp[results,Tryz.results23,go_sem,d0,d1];try rfl) rfl ?_;exact⟨n,_,_,q,(es.set k e'),rfl,(U ca).1,U jg,U kt,U pz,(U ca).2.1,U HFX,U HLX,⟨_,_,by rw[List.length_set],by rw[List.length_set];exact U HCP⟩,(U ca).2.2.1⟩)
   clear HK26;obtain⟨p0,p1,p2,p3,p4,p5,p6,p7⟩:=fit_parts (U HF0);have qp:Hid (_/\_/\_/\_/\_/\_/\_/\_):=Z ⟨p0,p1,p2,p3,p4,p5,p6,p7⟩;clear p0 p1 p2 p3 p4 p5 p6 p7;rcases(show sel=0\/sel=1\/sel=2\/sel=3\/sel=4\/sel=5\/sel=6\/sel=7 by omega) with rfl|rfl|rfl|rfl|rfl|rfl|rfl|rfl
   ·go_wp2_with fail;refine(rawEvent_drawn B v l (m+1400+100+3+3+3) V4 (U xU).d.s.1 (by omega)).mono ?_;rintro x V5 ⟨e',rfl,qV,hE⟩;have xT:=Z (gD (U xU) hB hE);have HFE:=Z qV;clear hE qV xU;unfold evV;obtain ⟨c0,c1,c2,c3,c4,c5,c6,c7,c8,c9,c10,c11,c12,c13⟩:=q0_14 (U xT).x rfl;obtain ⟨z0,z1,z2,z3,z4,z5,z6,z7,z8,z9,jD,ko,kp,kq⟩:=r0_14 (U xT).x rfl;have qL:=Z (ge_all (U xT) (U HV) hB e');clear xT;go_wp2_with fail;change K26 _ (V5.setCells eb 0 e'.vs);exact U un _ _ _ _ _ _ _ _ _ _ _ _ _ _ _ _ _ _ _ _ _ _ _ _ _ _ _ _ _ _ _ _ _ _ _ _ _ _ _ _ _ _ _ _ _ _ _ _ _ _ _ _ _ _ _ _ _ _ _ _ _ _ _ _ _ _ _ _ _ _ _ _ _ _ _ _ _ _ _ _ _ _ _ _ _ _ _ _ _ _ _ _ _ _ _ _ _ e' _ _ (U qL) (U HFE)
   ·have c0:=A (U xU).x 11 rfl;have z0:=zd (U xU).x 11 (by rw[Ev.len];omega);have HGd:=Z (gD (U xU) hB (fY (eS (U xU).d.s.1) 1));go_wp2_with fail
    go_region_with (go_at_call 28;refine(zO B v l (m+1400+100+3+3+3) _ _ (U HGd).d.s.1 (by omega) (by omega) (by omega)).mono ?_;rintro x V5 ⟨y,rfl,jj,kR,hE⟩;have xT:=Z (gD (U HGd) hB hE);have c1:=A (U xT).x 11 rfl;have z1:=zd (U xT).x 11 (by rw[Ev.len];omega);clear hE)
    all_goals
     go_wp2_with fail;exact U un _ _ _ _ _ _ _ _ _ _ _ _ _ _ _ _ _ _ _ _ _ _ _ _ _ _ _ _ _ _ _ _ _ _ _ _ _ _ _ _ _ _ _ _ _ _ _ _ _ _ _ _ _ _ _ _ _ _ _ _ _ _ _ _ _ _ _ _ _ _ _ _ _ _ _ _ _ _ _ _ _ _ _ _ _ _ _ _ _ _ _ _ _ _ _ _ _ ⟨e0.kind,e0.cmd,e0.id,e0.other,IntKind.i64.wrap (e0.qty+IntKind.i64.wrap (y-1)),e0.price,e0.reason⟩ _ _ (ge_set (e':=⟨e0.kind,e0.cmd,e0.id,e0.other,IntKind.i64.wrap (e0.qty+IntKind.i64.wrap (y-1)),e0.price,e0.reason⟩) (u:=H (IntKind.i64.wrap (e0.qty+IntKind.i64.wrap (y-1)))) (U xT) (U HV) hB (j:=11) (by omega) rfl) (ev_fit ((U qp).1) ((U qp).2.1) ((U qp).2.2.1) ((U qp).2.2.2.1) ((U qp).2.2.2.2.1) (mi_wrap _) ((U qp).2.2.2.2.2.2.1) ((U qp).2.2.2.2.2.2.2))
   ·have c0:=A (U xU).x 9 rfl;have z0:=zd (U xU).x 9 (by rw[Ev.len];omega);have HGd:=Z (gD (U xU) hB (fY (eS (U xU).d.s.1) 1));go_wp2_with fail
    go_region_with (go_at_call 28;refine(zO B v l (m+1400+100+3+3+3) _ _ (U HGd).d.s.1 (by omega) (by omega) (by omega)).mono ?_;rintro x V5 ⟨y,rfl,jj,kR,hE⟩;have xT:=Z (gD (U HGd) hB hE);have c1:=A (U xT).x 9 rfl;have z1:=zd (U xT).x 9 (by rw[Ev.len];omega);clear hE)
    all_goals
     go_wp2_with fail;exact U un _ _ _ _ _ _ _ _ _ _ _ _ _ _ _ _ _ _ _ _ _ _ _ _ _ _ _ _ _ _ _ _ _ _ _ _ _ _ _ _ _ _ _ _ _ _ _ _ _ _ _ _ _ _ _ _ _ _ _ _ _ _ _ _ _ _ _ _ _ _ _ _ _ _ _ _ _ _ _ _ _ _ _ _ _ _ _ _ _ _ _ _ _ _ _ _ _ ⟨e0.kind,e0.cmd,IntKind.i64.wrap (e0.id+IntKind.i64.wrap (y-1)),e0.other,e0.qty,e0.price,e0.reason⟩ _ _ (ge_set (e':=⟨e0.kind,e0.cmd,IntKind.i64.wrap (e0.id+IntKind.i64.wrap (y-1)),e0.other,e0.qty,e0.price,e0.reason⟩) (u:=H (IntKind.i64.wrap (e0.id+IntKind.i64.wrap (y-1)))) (U xT) (U HV) hB (j:=9) (by omega) rfl) (ev_fit ((U qp).1) ((U qp).2.1) ((U qp).2.2.1) (mi_wrap _) ((U qp).2.2.2.2.1) ((U qp).2.2.2.2.2.1) ((U qp).2.2.2.2.2.2.1) ((U qp).2.2.2.2.2.2.2))
   ·go_wp2_with fail;refine(zO B v l (m+1400+100+3+3+3) 9 V4 (U xU).d.s.1 (by omega) (by omega) (by omega)).mono ?_;rintro x V5 ⟨y,rfl,jj,kR,hE⟩;have xT:=Z (gD (U xU) hB hE);have c1:=A (U xT).x 0 rfl;have z1:=zd (U xT).x 0 (by rw[Ev.len];omega);clear hE;go_wp2_with fail;exact U un _ _ _ _ _ _ _ _ _ _ _ _ _ _ _ _ _ _ _ _ _ _ _ _ _ _ _ _ _ _ _ _ _ _ _ _ _ _ _ _ _ _ _ _ _ _ _ _ _ _ _ _ _ _ _ _ _ _ _ _ _ _ _ _ _ _ _ _ _ _ _ _ _ _ _ _ _ _ _ _ _ _ _ _ _ _ _ _ _ _ _ _ _ _ _ _ _ ⟨1+y,e0.cmd,e0.id,e0.other,e0.qty,e0.price,e0.reason⟩ _ _ (ge_set (e':=⟨1+y,e0.cmd,e0.id,e0.other,e0.qty,e0.price,e0.reason⟩) (u:=H (1+y)) (U xT) (U HV) hB (j:=0) (by omega) rfl) (ev_fit (eM (x:=1+y) (by omega) (by omega)) ((U qp).2.1) ((U qp).2.2.1) ((U qp).2.2.2.1) ((U qp).2.2.2.2.1) ((U qp).2.2.2.2.2.1) ((U qp).2.2.2.2.2.2.1) ((U qp).2.2.2.2.2.2.2))
   ·have x0:=A (U xU).x 0 rfl
    by_cases qx:e0.kind=3
    ·have hkb:(e0.kind==3)=true:=by simpa using qx
     have c1:=A (U xU).x 12 rfl;have z1:=zd (U xU).x 12 (by rw[Ev.len];omega);go_wp2_with fail;exact U un _ _ _ _ _ _ _ _ _ _ _ _ _ _ _ _ _ _ _ _ _ _ _ _ _ _ _ _ _ _ _ _ _ _ _ _ _ _ _ _ _ _ _ _ _ _ _ _ _ _ _ _ _ _ _ _ _ _ _ _ _ _ _ _ _ _ _ _ _ _ _ _ _ _ _ _ _ _ _ _ _ _ _ _ _ _ _ _ _ _ _ _ _ _ _ _ _ ⟨e0.kind,e0.cmd,e0.id,e0.other,e0.qty,wrap64 (e0.price+1),e0.reason⟩ _ _ (ge_set (e':=⟨e0.kind,e0.cmd,e0.id,e0.other,e0.qty,wrap64 (e0.price+1),e0.reason⟩) (u:=H (wrap64 (e0.price+1))) (U xU) (U HV) hB (j:=12) (by omega) rfl) (ev_fit ((U qp).1) ((U qp).2.1) ((U qp).2.2.1) ((U qp).2.2.2.1) ((U qp).2.2.2.2.1) ((U qp).2.2.2.2.2.1) (show Mi (wrap64 (e0.price+1)) by unfold Mi wrap64;omega) ((U qp).2.2.2.2.2.2.2))
    ·have hkb:(e0.kind==3)=false:=by simpa using qx
     go_wp2_with fail;exact U un _ _ _ _ _ _ _ _ _ _ _ _ _ _ _ _ _ _ _ _ _ _ _ _ _ _ _ _ _ _ _ _ _ _ _ _ _ _ _ _ _ _ _ _ _ _ _ _ _ _ _ _ _ _ _ _ _ _ _ _ _ _ _ _ _ _ _ _ _ _ _ _ _ _ _ _ _ _ _ _ _ _ _ _ _ _ _ _ _ _ _ _ _ _ _ _ _ e0 _ _ (U xU) (U HF0)
   ·have x0:=A (U xU).x 0 rfl
    by_cases qx:e0.kind=3
    ·have hkb:(e0.kind==3)=true:=by simpa using qx
     go_wp2_with fail;refine(zO B v l (m+1400+100+3+3+3) 9 V4 (U xU).d.s.1 (by omega) (by omega) (by omega)).mono ?_;rintro x V5 ⟨y,rfl,jj,kR,hE⟩;have xT:=Z (gD (U xU) hB hE);have c1:=A (U xT).x 10 rfl;have z1:=zd (U xT).x 10 (by rw[Ev.len];omega);clear hE;go_wp2_with fail;exact U un _ _ _ _ _ _ _ _ _ _ _ _ _ _ _ _ _ _ _ _ _ _ _ _ _ _ _ _ _ _ _ _ _ _ _ _ _ _ _ _ _ _ _ _ _ _ _ _ _ _ _ _ _ _ _ _ _ _ _ _ _ _ _ _ _ _ _ _ _ _ _ _ _ _ _ _ _ _ _ _ _ _ _ _ _ _ _ _ _ _ _ _ _ _ _ _ _ ⟨e0.kind,e0.cmd,e0.id,1+y,e0.qty,e0.price,e0.reason⟩ _ _ (ge_set (e':=⟨e0.kind,e0.cmd,e0.id,1+y,e0.qty,e0.price,e0.reason⟩) (u:=H (1+y)) (U xT) (U HV) hB (j:=10) (by omega) rfl) (ev_fit ((U qp).1) ((U qp).2.1) ((U qp).2.2.1) ((U qp).2.2.2.1) (eM (x:=1+y) (by omega) (by omega)) ((U qp).2.2.2.2.2.1) ((U qp).2.2.2.2.2.2.1) ((U qp).2.2.2.2.2.2.2))
    ·have hkb:(e0.kind==3)=false:=by simpa using qx
     go_wp2_with fail;exact U un _ _ _ _ _ _ _ _ _ _ _ _ _ _ _ _ _ _ _ _ _ _ _ _ _ _ _ _ _ _ _ _ _ _ _ _ _ _ _ _ _ _ _ _ _ _ _ _ _ _ _ _ _ _ _ _ _ _ _ _ _ _ _ _ _ _ _ _ _ _ _ _ _ _ _ _ _ _ _ _ _ _ _ _ _ _ _ _ _ _ _ _ _ _ _ _ _ e0 _ _ (U xU) (U HF0)
   ·have x0:=A (U xU).x 0 rfl
    by_cases qx:e0.kind=2
    ·have hkb:(e0.kind==2)=true:=by simpa using qx
     go_wp2_with fail;refine(zO B v l (m+1400+100+3+3+3) 15 V4 (U xU).d.s.1 (by omega) (by omega) (by omega)).mono ?_;rintro x V5 ⟨y,rfl,jj,kR,hE⟩;have xT:=Z (gD (U xU) hB hE);have c1:=A (U xT).x 13 rfl;have z1:=zd (U xT).x 13 (by rw[Ev.len];omega);clear hE;go_wp2_with fail;exact U un _ _ _ _ _ _ _ _ _ _ _ _ _ _ _ _ _ _ _ _ _ _ _ _ _ _ _ _ _ _ _ _ _ _ _ _ _ _ _ _ _ _ _ _ _ _ _ _ _ _ _ _ _ _ _ _ _ _ _ _ _ _ _ _ _ _ _ _ _ _ _ _ _ _ _ _ _ _ _ _ _ _ _ _ _ _ _ _ _ _ _ _ _ _ _ _ _ ⟨e0.kind,e0.cmd,e0.id,e0.other,e0.qty,e0.price,y⟩ _ _ (ge_set (e':=⟨e0.kind,e0.cmd,e0.id,e0.other,e0.qty,e0.price,y⟩) (u:=H y) (U xT) (U HV) hB (j:=13) (by omega) rfl) (ev_fit ((U qp).1) ((U qp).2.1) ((U qp).2.2.1) ((U qp).2.2.2.1) ((U qp).2.2.2.2.1) ((U qp).2.2.2.2.2.1) ((U qp).2.2.2.2.2.2.1) (eM jj (by omega)))
    ·have hkb:(e0.kind==2)=false:=by simpa using qx
     go_wp2_with fail;exact U un _ _ _ _ _ _ _ _ _ _ _ _ _ _ _ _ _ _ _ _ _ _ _ _ _ _ _ _ _ _ _ _ _ _ _ _ _ _ _ _ _ _ _ _ _ _ _ _ _ _ _ _ _ _ _ _ _ _ _ _ _ _ _ _ _ _ _ _ _ _ _ _ _ _ _ _ _ _ _ _ _ _ _ _ _ _ _ _ _ _ _ _ _ _ _ _ _ e0 _ _ (U xU) (U HF0)
   ·by_cases af:k+1<es.length
    ·have hk1':(k:Int)+1<es.length:=by omega
     have hwk:IntKind.i64.wrap ((k:Int)+1)=(k:Int)+1:=by rw[IntKind.wrap_i64];omega
     obtain⟨e1,he1⟩:∃e,es[k+1]? = some e:=⟨_,yI af⟩;have bZ:=Z (U HFT e1 (yP he1))
     obtain⟨g',ab,uR⟩:∃g',(some (J g 0):Option Addr)=some (J g' 0)/\V4.rangeAt g' (0+(k+1)*14) (Ev.vs e1):=by
      obtain⟨a1,c1,e1',-,D⟩:=(U xU).d.og;simp only[Value.slice.injEq,true_and] at e1';obtain⟨rfl,rfl⟩:=e1';obtain⟨g',Y,-,-,h3,-⟩:=D (U HNE);exact⟨g',Y,h3 (k+1) e1 he1⟩
     obtain rfl:g=g':=by have:=Option.some.inj ab;simpa using congrArg Addr.block this
     obtain⟨g0,g1,g2,g3,g4,g5,g6,g7,g8,g9,jL,jB,vY,kI⟩:=ev_cells uR;simp only[Nat.zero_add] at g0 g1 g2 g3 g4 g5 g6 g7 g8 g9 jL jB vY kI;obtain ⟨c0,c1,c2,c3,c4,c5,c6,c7,c8,c9,c10,c11,c12,c13⟩:=q0_14 (U xU).x rfl;obtain ⟨z0,z1,z2,z3,z4,z5,z6,z7,z8,z9,jD,ko,kp,kq⟩:=r0_14 (U xU).x rfl;have qL:=Z (ge_all (U xU) (U HV) hB e1);clear uR ab;go_wp2_with fail;change K26 _ (V4.setCells eb 0 e1.vs);exact U un _ _ _ _ _ _ _ _ _ _ _ _ _ _ _ _ _ _ _ _ _ _ _ _ _ _ _ _ _ _ _ _ _ _ _ _ _ _ _ _ _ _ _ _ _ _ _ _ _ _ _ _ _ _ _ _ _ _ _ _ _ _ _ _ _ _ _ _ _ _ _ _ _ _ _ _ _ _ _ _ _ _ _ _ _ _ _ _ _ _ _ _ _ _ _ _ _ e1 _ _ (U qL) (U bZ)
    ·have hk1':¬ ((k:Int)+1<es.length):=by omega
     have hwk:IntKind.i64.wrap ((k:Int)+1)=(k:Int)+1:=by rw[IntKind.wrap_i64];omega
     go_wp2_with fail;exact U un _ _ _ _ _ _ _ _ _ _ _ _ _ _ _ _ _ _ _ _ _ _ _ _ _ _ _ _ _ _ _ _ _ _ _ _ _ _ _ _ _ _ _ _ _ _ _ _ _ _ _ _ _ _ _ _ _ _ _ _ _ _ _ _ _ _ _ _ _ _ _ _ _ _ _ _ _ _ _ _ _ _ _ _ _ _ _ _ _ _ _ _ _ _ _ _ _ e0 _ _ (U xU) (U HF0)
theorem groupOf_any (v:Value)(l:List Int)(w:World)(h:Rd w v l)(E:Bts l) :
  Calls Tryz.prog 11 #[v] w fun x w'=>∃n vq vg q es,x=ym (.tuple #[.agg #[H n,vq],vg])/\RdR Od.vs 6 w' vq q/\SlOk vq/\okS n q=true/\(∀o∈q,o.tag.size<=maxLen)/\RdR Ev.vs 14 w' vg es/\(∀e∈es,e.fit)/\es.length<=100/\(∃ga gc,vg = .slice ga es.length gc/\es.length<=gc)/\yn w w':=by
 have HB:=Z E;have HA0:Hid (yn w (w.alloc (mq #[H 0,.slice none 0 0] 27))):=mn _ _;have oQ:Hid (Bx (w.alloc (mq #[H 0,.slice none 0 0] 27)) w.heap.size [H 0,.slice none 0 0]):=zn w [H 0,.slice none 0 0] 27;have HR:=Z (rd_below h (U HA0) ya);have qJ:w.heap.size<(w.alloc (mq #[H 0,.slice none 0 0] 27)).heap.size:=by simp
 obtain⟨a,cap,rfl,hl,_⟩:=h;clear E;go_enter Tryz.func11,Tryz.ntmps11;go_wp2_with fail;generalize (w.alloc (mq #[H 0,.slice none 0 0] 27))=W0 at HA0 oQ HR qJ |-;refine(source_any _ l _ (U HR) (U HB)).mono ?_;rintro e w1 ⟨rfl,hS,uw⟩;have HS:=Z hS;have uf:=Z uw;have uV:=Z (zg (U oQ) uw qJ);have xJ:w.heap.size<w1.heap.size:=yK qJ uw.size;clear hS uw;go_wp2_with fail;refine(group_drawn _ _ l _ w1 (U HS) (by omega)).mono ?_;rintro e w2 ⟨n,vq,vg,q,es,rfl,D,Y,h3,h4,h5,h6,h7,⟨ga,gc,rfl,h8⟩,h9⟩;have xG:=Z (bx_gr (U uV) h9 xJ (by omega));obtain⟨qa,qc,rfl,-⟩:=id D;have jI:=Z D;have pw:=Z h5;have HRS:Hid (SlOk _/\okS n q=true/\(∀o∈q,o.tag.size<=maxLen)/\(∀e∈es,e.fit)/\es.length<=100/\es.length<=gc):=Z ⟨Y,h3,h4,h6,h7,h8⟩;have xv:=Z ((U HA0).trans ((U uf).mono (U HA0).size));have xI:Hid (yn w w2):=Z (own_below_grown (U xv) (by omega) h9);clear D Y h3 h4 h5 h6 h7 h8 h9 uV;obtain ⟨c0,c1⟩:=q0_2 (U xG) rfl;obtain ⟨f0,f1⟩:=r0_2 (U xG) rfl;have xX:=Z (zq (us:=[H n,.slice qa q.length qc]) (U xG) rfl);have HBF:=Z (zh w.heap.size ya [H n,.slice qa q.length qc] 0 w2 (U xI))
 have HOF:=Z (own_other (g:=w.heap.size) (o:=0) (us:=[H n,.slice qa q.length qc]) (U jI) (fun xr e=>by
  obtain⟨g,e1,e2,e3⟩:=gU (U jI) xr;rw[e1] at e;have:=Option.some.inj e;omega))
 have HEF:=Z (own_other (g:=w.heap.size) (o:=0) (us:=[H n,.slice qa q.length qc]) (U pw) (fun xr e=>by
  obtain⟨g,e1,e2,e3⟩:=gU (U pw) xr;rw[e1] at e;have:=Option.some.inj e;omega))
 go_wp2_with fail;change bodyPost _ _ _ _ _ (w2.setCells w.heap.size 0 [H n,.slice qa q.length qc]);generalize w2.setCells w.heap.size 0 [H n,.slice qa q.length qc]=WF at xX HBF HOF HEF |-;obtain ⟨d0,d1⟩:=q0_2 (U xX) rfl;refine bodyPost_ret (by simp[results,Tryz.results11,go_sem,d0,d1];try rfl) rfl ?_;exact⟨n,_,_,q,es,rfl,ownR_rd (U HOF),(U HRS).1,(U HRS).2.1,(U HRS).2.2.1,ownR_rd (U HEF),(U HRS).2.2.2.1,(U HRS).2.2.2.2.1,⟨_,_,rfl,(U HRS).2.2.2.2.2⟩,U HBF⟩
end Go.Proofs.YthhkapcbocgcoaaGreatDoor
