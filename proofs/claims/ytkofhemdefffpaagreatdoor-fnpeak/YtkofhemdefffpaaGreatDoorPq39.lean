/-.-/
import Derived.Test.YtkofhemdefffpaaGreatDoorPq19
import Derived.Test.YtkofhemdefffpaaGreatDoorPq33
import Derived.Test.YtkofhemdefffpaaGreatDoorPq34
import Derived.Test.YtkofhemdefffpaaGreatDoorPq38
set_option linter.unusedVariables false
set_option maxHeartbeats 6400000
set_option maxRecDepth 100000
namespace Go.Proofs.YtkofhemdefffpaaGreatDoor
open Go.RowKit
theorem told_one {n:Int}{l:List Od}(c:Cm)(F:GoodL l):∃e es,stE n l c=e::es/\iw e.kind=true/\(da e).g.size<=13/\stN n l (da e)=stN n l c/\stL n l (da e)=stL n l c/\stE n l (da e)=stE n l c:=by
 by_cases h0:refR n l c=0
 ·by_cases E:c.k=1
  ·have hf:=form1 h0 E
   have aJ:c.g.size<=13:=by
    rcases Nat.lt_or_ge 13 c.g.size with hgt|uJ
    ·exfalso;rw[refR_long (by omega),if_pos E] at h0;revert h0
     repeat' split
     all_goals (intro h;cases h)
    ·exact uJ
   have e1:stE n l c=accE c n (matL c n 21 l c.q []):=by rw[stE,if_pos h0,if_pos E]
   refine⟨⟨1,⟨1,c.s,c.t,c.l,c.q,0,c.p,c.g⟩,n,0,0,0,0⟩,_,e1,rfl,?_,?_⟩
   ·exact aJ
   ·have e2:da ⟨1,⟨1,c.s,c.t,c.l,c.q,0,c.p,c.g⟩,n,0,0,0,0⟩=c:=by
     unfold da;rw[if_pos (by rfl)];exact hf.symm
    rw[e2];exact⟨rfl,rfl,rfl⟩
  ·by_cases Q:c.k=2
   ·have ht:=toldCan h0 Q
    have vl:idR l c.i=0:=by
     rw[refR,if_neg E,if_pos Q] at h0;split at h0
     ·exact h0
     ·cases h0
    rcases iH l c.i with hp|⟨k,o,hp,D⟩
    ·rw[idR,if_pos (by omega)] at vl;cases vl
    ·have e1:stE n l c = [⟨6,zCm,c.i,0,o.left,0,0⟩]:=by
      rw[stE,if_pos h0,if_neg E,if_pos Q,hp,Int.toNat_natCast,D]
     refine⟨_,_,e1,rfl,Nat.zero_le _,?_⟩;have e2:da ⟨6,zCm,c.i,0,o.left,0,0⟩=⟨2,0,0,0,0,c.i,0,⟨#[]⟩⟩:=rfl;rw[e2];refine⟨?_,?_,?_⟩
     ·rw[stN,stN,if_neg (by rintro⟨-,h⟩;exact absurd (show(2:Int)=1 from h) (by decide)),if_neg (fun x=>E x.2)]
     ·rw[stL,stL,if_pos ht,if_pos h0,if_neg E,if_pos Q,if_neg (by show ¬ (2:Int)=1;decide),if_pos (by rfl)]
     ·rw[stE,stE,if_pos ht,if_pos h0,if_neg E,if_pos Q,if_neg (by show ¬ (2:Int)=1;decide),if_pos (by rfl)]
   ·by_cases I:c.k=3
    ·have ht:=toldRed h0 I
     have e1:stE n l c = [⟨7,zCm,c.i,0,c.q,0,0⟩]:=by
      rw[stE,if_pos h0,if_neg E,if_neg Q,if_pos I]
     refine⟨_,_,e1,rfl,Nat.zero_le _,?_⟩;have e2:da ⟨7,zCm,c.i,0,c.q,0,0⟩=⟨3,0,0,0,c.q,c.i,0,⟨#[]⟩⟩:=rfl;rw[e2];refine⟨?_,?_,?_⟩
     ·rw[stN,stN,if_neg (by rintro⟨-,h⟩;exact absurd (show(3:Int)=1 from h) (by decide)),if_neg (fun x=>E x.2)]
     ·rw[stL,stL,if_pos ht,if_pos h0,if_neg E,if_neg Q,if_pos I,if_neg (by show ¬ (3:Int)=1;decide),if_neg (by show ¬ (3:Int)=2;decide),if_pos (by rfl)]
     ·rw[stE,stE,if_pos ht,if_pos h0,if_neg E,if_neg Q,if_pos I,if_neg (by show ¬ (3:Int)=1;decide),if_neg (by show ¬ (3:Int)=2;decide),if_pos (by rfl)]
    ·have ht:=toldDay n l
     have e1:stE n l c=⟨8,zCm,0,0,((l.filter dyB).length:Nat),0,0⟩::(l.filter dyB).map expE:=by
      rw[stE,if_pos h0,if_neg E,if_neg Q,if_neg I]
     refine⟨_,_,e1,rfl,Nat.zero_le _,?_⟩;have e2:da ⟨8,zCm,0,0,((l.filter dyB).length:Nat),0,0⟩=⟨4,0,0,0,0,0,0,⟨#[]⟩⟩:=rfl;rw[e2];refine⟨?_,?_,?_⟩
     ·rw[stN,stN,if_neg (by rintro⟨-,h⟩;exact absurd (show(4:Int)=1 from h) (by decide)),if_neg (fun x=>E x.2)]
     ·rw[stL,stL,if_pos ht,if_pos h0,if_neg E,if_neg Q,if_neg I,if_neg (by show ¬ (4:Int)=1;decide),if_neg (by show ¬ (4:Int)=2;decide),if_neg (by show ¬ (4:Int)=3;decide)]
     ·rw[stE,stE,if_pos ht,if_pos h0,if_neg E,if_neg Q,if_neg I,if_neg (by show ¬ (4:Int)=1;decide),if_neg (by show ¬ (4:Int)=2;decide),if_neg (by show ¬ (4:Int)=3;decide)]
 ·have e1:stE n l c = [⟨2,cutC c,0,0,0,0,refR n l c⟩]:=by rw[stE,if_neg h0];rfl
  refine⟨_,_,e1,rfl,gL _,?_⟩;have e2:da ⟨2,cutC c,0,0,0,0,refR n l c⟩=cutC c:=rfl;have hr:refR n l (cutC c)=refR n l c:=refR_cut c;have Z:refR n l (cutC c)≠0:=by rw[hr];exact h0
  rw[e2];refine⟨?_,?_,?_⟩
  ·rw[stN,stN,if_neg (fun x=>Z x.1),if_neg (fun x=>h0 x.1)]
  ·rw[stL,stL,if_neg Z,if_neg h0]
  ·rw[e1,stE,if_neg Z,hr];show[(⟨2,cutC (cutC c),0,0,0,0,refR n l c⟩:Ev)] = _;rw[cut_cut]
def BSd (B:Nat)(W0:World)(v:Value)(l:List Int)(m0:Int)(n:Nat)(W:World):Prop:=∃m',m'<=m0+3*(n:Int)/\du B W0 v l m' W
theorem gB {B:Nat}{W0 W:World}{v:Value}{l:List Int}{m0:Int}{n:Nat}(h:BSd B W0 v l m0 n W):BSd B W0 v l m0 (n+1) W:=by
 obtain⟨m',Z,Q⟩:=h;exact⟨m',by omega,Q⟩
theorem bsd_call {B:Nat}{W0 W W':World}{v:Value}{l:List Int}{m0 m':Int}{n:Nat}(Z:m'<=m0+3*(n:Int))(Q:du B W0 v l m' W)(h:du B W v l (m'+3) W'):BSd B W0 v l m0 (n+1) W':=
 ⟨m'+3,by omega,h.1,zr Q.2 h.2⟩
theorem bsd_alloc {B:Nat}{W0 W:World}{v:Value}{l:List Int}{m0:Int}{n:Nat}(h:BSd B W0 v l m0 n W)(o:Obj):BSd B W0 v l m0 (n+1) (W.alloc o):=by
 obtain⟨m',Z,Q⟩:=h;exact⟨m',by omega,gA Q o⟩
structure DrP (B pt:Nat) (w:World) (v:Value) (l:List Int) (m:Int) (c:Cm) (V:World):Prop where
 dc:DrC B w.heap.size w v l m V
 r:V.rangeAt pt 0 c.vs
 t:V.there pt 0 8
 lt:pt<V.heap.size
theorem drP_more {B pt:Nat}{w V:World}{v:Value}{l:List Int}{m m':Int}{c:Cm}(h:DrP B pt w v l m c V)(hm:m<=m'):DrP B pt w v l m' c V:=
 ⟨⟨⟨eY h.dc.e.1 hm,h.dc.e.2⟩,h.dc.t⟩,h.r,h.t,h.lt⟩
theorem drP_step {B pt:Nat}{w V V':World}{v:Value}{l:List Int}{m m':Int}{c:Cm}(h:DrP B pt w v l m c V)(hB:B<w.heap.size)(hp:w.heap.size<pt)(hE:du B V v l m' V'):DrP B pt w v l m' c V':=
 ⟨eS h.dc hB hE (by have:=h.lt;omega),zv h.r hE.2 h.lt (fun e=>by have:=Option.some.inj e;omega),fK h.t hE.2 h.lt (fun e=>by have:=Option.some.inj e;omega),yK h.lt hE.2.size⟩
theorem drP_set {B pt:Nat}{w V:World}{v:Value}{l:List Int}{m:Int}{c c':Cm}(h:DrP B pt w v l m c V)(hv:l ≠ []->∃k,v.ownBlock=some k/\k<w.heap.size)(hB:B<w.heap.size)(hp:w.heap.size<pt)(j:Nat)(u:Value)(hj:j<8)(hc:c.vs.set j u=c'.vs):DrP B pt w v l m c' (V.setCell (Y pt j) u):=by
 refine⟨⟨gQ (b:=pt) (o:=j) hv h.dc.e hB (by omega) [u],xc (vs:=[u]) h.dc.t pt j⟩,?_,xc (vs:=[u]) h.t pt j,yK h.lt (gr_setsD pt [u] j V).size⟩;have:=lH (v:=u) h.r (j0:=j) hj;rwa[Nat.zero_add,hc] at this
def tys8:List Value:=[H 1,H 1,H 1,H 2,H 3,H 4,H 5,H 5]
def tag3:List ByteArray:=[⟨#[]⟩,⟨#[97]⟩,⟨#[100,101,115,107,32,55]⟩]
theorem tag3_len:∀s∈tag3,s.size<=20:=by decide +kernel
def D10 (B S0:Nat)(Fin:Nat->World->Prop)(p:Prop)(W:World):Nat->Value->Prop
 | 0,v=>v=h3 B 0
 | 1,v=>∃y:Int,v=H y
 | 2,v=>∃y:Int,v=H y/\Mi y
 | 3,v=>∃g,v = .slice (some (Y g 0)) 8 8/\S0<=g/\(¬ p->W.rangeAt g 0 tys8)
 | 4,v=>v=h3 B 0
 | 5,v=>∃k:Nat,v=H k/\k<8
 | 6,v=>∃g k,v=h3 g k/\k<8/\S0<=g/\(¬ p->W.rangeAt g 0 tys8)
 | 7,v=>∃y:Int,v=H y/\Mi y
 | 8,v=>v=h3 B 0
 | 9,v=>∃y:Int,v=H y
 | 10,v=>∃y:Int,v=H y/\Mi y
 | 11,v=>v=h3 B 0
 | 12,v=>∃g,v = .slice (some (Y g 0)) 3 3/\S0<=g/\(¬ p->W.rangeAt g 0 (tag3.map .string))
 | 13,v=>∃s,v=yl s/\s.size<=20
 | 14,v=>∃c:Cm,v = .agg c.vs.toArray/\DrOk c/\DrIn c
 | 15,v=>∃pt,v=h3 pt 0/\S0<=pt/\(¬ p->pt<W.heap.size/\W.there pt 0 8)/\(p->Fin pt W)
 | _,_=>True
theorem ic {B S0:Nat}{Fin:Nat->World->Prop}{p:Prop}{W W':World}(hp:¬ p)(hB:B<S0)(F:W.grownBy W' (some B)):∀j v,D10 B S0 Fin p W j v->D10 B S0 Fin p W' j v:=by
 have e:∀g (vs:List Value) (u:Value),S0<=g->W.rangeAt g 0 (u::vs)->W'.rangeAt g 0 (u::vs):=fun g vs u h Z=>zv Z F (yL W _ (Z 0 _ rfl)) (fun e=>by have:=Option.some.inj e;omega);intro j v h
 match j with
 | 3=>obtain⟨g,Z,Q,I⟩:=h;exact⟨g,Z,Q,fun q=>e g _ _ Q (I q)⟩
 | 6=>obtain⟨g,k,Z,Q,I,h4⟩:=h;exact⟨g,k,Z,Q,I,fun q=>e g _ _ I (h4 q)⟩
 | 12=>obtain⟨g,Z,Q,I⟩:=h;exact⟨g,Z,Q,fun q=>e g _ _ Q (I q)⟩
 | 15=>obtain⟨pt,Z,Q,I,h4⟩:=h;exact⟨pt,Z,Q,fun q=>⟨yK (I q).1 F.size,fK (I q).2 F (I q).1 (fun e=>by have:=Option.some.inj e;omega)⟩,fun q=>absurd q hp⟩
 | 0|1|2|4|5|7|8|9|10|11|13|14=>exact h
 | j+16=>trivial
theorem tys8_at {W:World}{g k:Nat}(h:W.rangeAt g 0 tys8)(E:k<8):∃y:Int,W.cell? (Y g k)=some (H y)/\Mi y:=by
 rcases(by omega:k=0\/k=1\/k=2\/k=3\/k=4\/k=5\/k=6\/k=7) with rfl|rfl|rfl|rfl|rfl|rfl|rfl|rfl
 all_goals first|exact⟨_,h 0 _ rfl,by unfold Mi;omega⟩|exact⟨_,h 1 _ rfl,by unfold Mi;omega⟩|exact⟨_,h 2 _ rfl,by unfold Mi;omega⟩|exact⟨_,h 3 _ rfl,by unfold Mi;omega⟩|exact⟨_,h 4 _ rfl,by unfold Mi;omega⟩|exact⟨_,h 5 _ rfl,by unfold Mi;omega⟩|exact⟨_,h 6 _ rfl,by unfold Mi;omega⟩|exact⟨_,h 7 _ rfl,by unfold Mi;omega⟩
theorem cmd_drawn (B:Nat)(v:Value)(l:List Int)(m ids:Int)(w:World)(h:Src B w v l m)(hm:m<=700000000)(uo:0<=ids)(hi1:ids<=1000) :
  Calls Tryz.prog 16 #[h3 B 0,H ids] w fun e w'=>∃c:Cm,e=yn (.agg c.vs.toArray)/\DrOk c/\DrIn c/\du B w v l (m+100) w':=by
 have HV:=U (src_far h);have hB:=src_lt h;have oD:Hid (DrC B w.heap.size w v l m (w.alloc (me (yy 0 0 0 0 0 0 0 ⟨#[]⟩).toArray 37))):=⟨gA (fP h) _,(zo w (yy 0 0 0 0 0 0 0 ⟨#[]⟩) 37).t⟩;have jo:w.heap.size<(w.alloc (me (yy 0 0 0 0 0 0 0 ⟨#[]⟩).toArray 37)).heap.size:=by simp
 clear h;go_enter Tryz.func16,Tryz.ntmps16;go_wp2_with fail;generalize (w.alloc (me (yy 0 0 0 0 0 0 0 ⟨#[]⟩).toArray 37))=W0 at oD jo |-;refine(ei B v l m 12 W0 (O oD).e.1 (by omega) (by omega) (by omega)).mono ?_;rintro e W1 ⟨y,rfl,ph,cz,hE⟩;have ji:=U (eS (O oD) hB hE jo);have xG:w.heap.size<W1.heap.size:=yK jo hE.2.size;clear hE oD jo
 by_cases e0:y=0
 ·subst e0;go_wp2_with fail;refine(rawCmd_drawn B v l (m+3) W1 (O ji).e.1 (by omega)).mono ?_;rintro e W2 ⟨⟨y1,y2,y3,y4,y5,y6,y7,y8⟩,rfl,hy8,ue,hE⟩;have br:=U ue;clear ue;have bo:=U (eS (O ji) hB hE xG);clear hE ji xG;unfold Cm.vs;simp only;have pY:=U (O bo).t;have ul:Hid ((W2.setCells w.heap.size 0 (yy y1 y2 y3 y4 y5 y6 y7 y8)).rangeAt w.heap.size 0 (yy y1 y2 y3 y4 y5 y6 y7 y8)):=yY _ _ _ _ (O bo).t;have qi:Hid (du B w v l (m+3+30) (W2.setCells w.heap.size 0 (yy y1 y2 y3 y4 y5 y6 y7 y8))):=gQ (O HV) (O bo).e hB yb _
  try dsimp only
  rename_i K1 bR K2 kh;refine kh _ _ ?_;have xw:=U bR;clear bR kh;refine wpList_store_mid rfl 37 (.tmp 4) (.tmp 11) rfl w.heap.size 0 (yy y1 y2 y3 y4 y5 y6 y7 y8).toArray rfl rfl (O pY) (by kernel_rfl) (by simp[Value.oneCell']) ?_;change wpList _ _ _ _ _ (W2.setCells w.heap.size 0 (yy y1 y2 y3 y4 y5 y6 y7 y8));generalize W2.setCells w.heap.size 0 (yy y1 y2 y3 y4 y5 y6 y7 y8)=WF at ul qi |-;have bR:=O xw;go_wp2_with fail;have d0:=O ul 0 _ rfl;have d1:=O ul 1 _ rfl;have d2:=O ul 2 _ rfl;have d3:=O ul 3 _ rfl;have d4:=O ul 4 _ rfl;have d5:=O ul 5 _ rfl;have d6:=O ul 6 _ rfl;have d7:=O ul 7 _ rfl;simp only[Nat.zero_add] at d0 d1 d2 d3 d4 d5 d6 d7;refine bodyPost_ret (by simp[results,Tryz.results16,go_sem,d0,d1,d2,d3,d4,d5,d6,d7];try rfl) rfl ?_;exact⟨⟨y1,y2,y3,y4,y5,y6,y7,y8⟩,rfl,hy8,O br,eY (O qi).1 (by omega),(O qi).2⟩
 have b0:(y==0)=false:=by simpa using e0
 by_cases e1:y=1
 ·subst e1;have hwr:IntKind.i64.wrap (ids+1)=ids+1:=by rw[IntKind.wrap_i64];omega
  go_wp2_with fail;refine(ei B v l (m+3) (ids+1) W1 (O ji).e.1 (by omega) (by omega) (by omega)).mono ?_;rintro e W2 ⟨z,rfl,ub,xX,hE⟩;have bo:=U (eS (O ji) hB hE xG);have hwz:IntKind.i64.wrap (1+z)=1+z:=by rw[IntKind.wrap_i64];omega
  clear hE ji xG;have pY:=U (O bo).t;have ul:Hid ((W2.setCells w.heap.size 0 (yy 2 0 0 0 0 (1+z) 0 ⟨#[]⟩)).rangeAt w.heap.size 0 (yy 2 0 0 0 0 (1+z) 0 ⟨#[]⟩)):=yY _ _ _ _ (O bo).t;have qi:Hid (du B w v l (m+3+3) (W2.setCells w.heap.size 0 (yy 2 0 0 0 0 (1+z) 0 ⟨#[]⟩))):=gQ (O HV) (O bo).e hB yb _
  try dsimp only
  rename_i K1 bR K2 kh;refine kh _ _ ?_;have xw:=U bR;clear bR kh;refine wpList_step fun K3 qG=>?_;have vZ:=U qG;clear qG;go_simp;refine O vZ _ _ ?_;clear vZ;refine wpList_step fun K3 qG=>?_;have vZ:=U qG;clear qG;go_simp;refine O vZ _ _ ?_;clear vZ;refine wpList_store_mid rfl 37 (.tmp 4) (.tmp 19) rfl w.heap.size 0 (yy 2 0 0 0 0 (1+z) 0 ⟨#[]⟩).toArray rfl rfl (O pY) (by kernel_rfl) (by simp[Value.oneCell']) ?_;change wpList _ _ _ _ _ (W2.setCells w.heap.size 0 (yy 2 0 0 0 0 (1+z) 0 ⟨#[]⟩));generalize W2.setCells w.heap.size 0 (yy 2 0 0 0 0 (1+z) 0 ⟨#[]⟩)=WF at ul qi |-;have bR:=O xw;go_wp2_with fail;have d0:=O ul 0 _ rfl;have d1:=O ul 1 _ rfl;have d2:=O ul 2 _ rfl;have d3:=O ul 3 _ rfl;have d4:=O ul 4 _ rfl;have d5:=O ul 5 _ rfl;have d6:=O ul 6 _ rfl;have d7:=O ul 7 _ rfl;simp only[Nat.zero_add] at d0 d1 d2 d3 d4 d5 d6 d7;refine bodyPost_ret (by simp[results,Tryz.results16,go_sem,d0,d1,d2,d3,d4,d5,d6,d7];try rfl) rfl ?_;exact⟨⟨2,0,0,0,0,1+z,0,⟨#[]⟩⟩,rfl,⟨by show ByteArray.size ⟨#[]⟩<=20;decide,eP (by kernel_rfl)⟩,by unfold DrIn Mi;simp only;omega,eY (O qi).1 (by omega),(O qi).2⟩
 have b1:(y==1)=false:=by simpa using e1
 by_cases e2:y=2
 ·subst e2;have hwr:IntKind.i64.wrap (ids+1)=ids+1:=by rw[IntKind.wrap_i64];omega
  go_wp2_with fail;refine(ei B v l (m+3) (ids+1) W1 (O ji).e.1 (by omega) (by omega) (by omega)).mono ?_;rintro e W2 ⟨z,rfl,ub,xX,hE⟩;have bo:=U (eS (O ji) hB hE xG);have ug:w.heap.size<W2.heap.size:=yK xG hE.2.size;have hwz:IntKind.i64.wrap (1+z)=1+z:=by rw[IntKind.wrap_i64];omega
  clear hE ji xG;go_wp2_with fail;refine(ei B v l (m+3+3) 6 W2 (O bo).e.1 (by omega) (by omega) (by omega)).mono ?_;rintro e W3 ⟨u,rfl,hu0,hu1,hE⟩;have HD3:=U (eS (O bo) hB hE ug);clear hE bo ug;have pY:=U (O HD3).t;have ul:Hid ((W3.setCells w.heap.size 0 (yy 3 0 0 0 u (1+z) 0 ⟨#[]⟩)).rangeAt w.heap.size 0 (yy 3 0 0 0 u (1+z) 0 ⟨#[]⟩)):=yY _ _ _ _ (O HD3).t;have qi:Hid (du B w v l (m+3+3+3) (W3.setCells w.heap.size 0 (yy 3 0 0 0 u (1+z) 0 ⟨#[]⟩))):=gQ (O HV) (O HD3).e hB yb _
  try dsimp only
  rename_i K1 bR K2 kh;refine kh _ _ ?_;have xw:=U bR;clear bR kh;refine wpList_step fun K3 qG=>?_;have vZ:=U qG;clear qG;go_simp;refine O vZ _ _ ?_;clear vZ;refine wpList_store_mid rfl 37 (.tmp 4) (.tmp 29) rfl w.heap.size 0 (yy 3 0 0 0 u (1+z) 0 ⟨#[]⟩).toArray rfl rfl (O pY) (by kernel_rfl) (by simp[Value.oneCell']) ?_;change wpList _ _ _ _ _ (W3.setCells w.heap.size 0 (yy 3 0 0 0 u (1+z) 0 ⟨#[]⟩));generalize W3.setCells w.heap.size 0 (yy 3 0 0 0 u (1+z) 0 ⟨#[]⟩)=WF at ul qi |-;have bR:=O xw;go_wp2_with fail;have d0:=O ul 0 _ rfl;have d1:=O ul 1 _ rfl;have d2:=O ul 2 _ rfl;have d3:=O ul 3 _ rfl;have d4:=O ul 4 _ rfl;have d5:=O ul 5 _ rfl;have d6:=O ul 6 _ rfl;have d7:=O ul 7 _ rfl;simp only[Nat.zero_add] at d0 d1 d2 d3 d4 d5 d6 d7;refine bodyPost_ret (by simp[results,Tryz.results16,go_sem,d0,d1,d2,d3,d4,d5,d6,d7];try rfl) rfl ?_;exact⟨⟨3,0,0,0,u,1+z,0,⟨#[]⟩⟩,rfl,⟨by show ByteArray.size ⟨#[]⟩<=20;decide,eP (by kernel_rfl)⟩,by unfold DrIn Mi;simp only;omega,eY (O qi).1 (by omega),(O qi).2⟩
 have b2:(y==2)=false:=by simpa using e2
 by_cases e3:y=3
 ·subst e3;have ul:Hid ((W1.setCells w.heap.size 0 (yy 4 0 0 0 0 0 0 ⟨#[]⟩)).rangeAt w.heap.size 0 (yy 4 0 0 0 0 0 0 ⟨#[]⟩)):=yY _ _ _ _ (O ji).t;have qi:Hid (du B w v l (m+3) (W1.setCells w.heap.size 0 (yy 4 0 0 0 0 0 0 ⟨#[]⟩))):=gQ (O HV) (O ji).e hB yb _
  try dsimp only
  repeat (first|(refine wpList_store_mid rfl 37 (.tmp 4) (.tmp 32) rfl w.heap.size 0 (yy 4 0 0 0 0 0 0 ⟨#[]⟩).toArray rfl rfl (O ji).t (by kernel_rfl) (by simp[Value.oneCell']) ?_;change wpList _ _ _ _ _ (W1.setCells w.heap.size 0 (yy 4 0 0 0 0 0 0 ⟨#[]⟩)))|go_step)
  generalize W1.setCells w.heap.size 0 (yy 4 0 0 0 0 0 0 ⟨#[]⟩)=WF at ul qi |-;have d0:=O ul 0 _ rfl;have d1:=O ul 1 _ rfl;have d2:=O ul 2 _ rfl;have d3:=O ul 3 _ rfl;have d4:=O ul 4 _ rfl;have d5:=O ul 5 _ rfl;have d6:=O ul 6 _ rfl;have d7:=O ul 7 _ rfl;simp only[Nat.zero_add] at d0 d1 d2 d3 d4 d5 d6 d7;refine bodyPost_ret (by simp[results,Tryz.results16,go_sem,d0,d1,d2,d3,d4,d5,d6,d7];try rfl) rfl ?_;exact⟨⟨4,0,0,0,0,0,0,⟨#[]⟩⟩,rfl,⟨by show ByteArray.size ⟨#[]⟩<=20;decide,eP (by kernel_rfl)⟩,by unfold DrIn Mi;simp only;omega,eY (O qi).1 (by omega),(O qi).2⟩
 have b3:(y==3)=false:=by simpa using e3
 clear e0 e1 e2 e3;go_wp2_with fail;have hB1:B<W1.heap.size:=by omega
 refine zA (RS (BSd B W1 v l (m+3)) (fun f=>{ tmps:=#[h3 B 0,H ids,M,M,yq w 0,f 15,h3 B 0,H y,.bool false,.bool false,M,M,.bool false,.bool false,M,M,M,M,M,M,.bool false,.bool false,M,M,M,M,M,M,M,M,.bool false,.bool false,M,f 0,f 1,f 2,f 3,f 4,f 5,f 6,f 7,f 8,f 9,f 10,f 11,f 12,f 13,f 14,M,M,M,M,M,M,M,M,M,M,M,M,M,M,M,M,M,M],defers:=[] }) 16 (D10 B W1.heap.size (fun pt W=>∃c:Cm,(DrOk c/\DrIn c)/\W.rangeAt pt 0 c.vs/\W.there pt 0 8/\pt<W.heap.size/\DrC B w.heap.size w v l (m+60) W))) (by kernel_rfl) ?_ ?_ ?_
 ·exact⟨fun j=>M,rfl,fun _=>⟨m+3,by simp,iN (fP (O ji).e.1) 1⟩,fun j hj=>by rw[yJ] at hj;split at hj <;> simp at hj⟩
 ·rintro x md V ⟨f,rfl,-,hD⟩ hx xY;have xq:=eM xY hx (acyc _ (by kernel_rfl));obtain⟨pt,e15,hSp,-,qX⟩:=hD 15 (xq 15 (by simp));obtain⟨⟨ck,cs,ct,cl,cq,ci,cp,cg⟩,aY,hr,ht,uO,hdc⟩:=qX (xq 16 (by simp));have HP:Hid (DrP B pt w v l (m+60) ⟨ck,cs,ct,cl,cq,ci,cp,cg⟩ V):=⟨hdc,hr,ht,uO⟩;have HCG:Hid (cg.size<=20):=aY.1.1;have HCP:Hid (PrV cp):=⟨aY.1.2,aY.2.2.2.2.2.2.2⟩;have br:Hid (DrIn ⟨ck,cs,ct,cl,cq,ci,cp,cg⟩):=aY.2;have hsp:w.heap.size<pt:=yK xG hSp;dsimp only;simp only[e15];clear hD xq xY hx hr ht hdc qX e15 ji hSp uO aY;generalize f 0=a0,f 1=a1,f 2=a2,f 3=a3,f 4=a4,f 5=a5,f 6=a6,f 7=a7,f 8=a8,f 9=a9,f 10=a10,f 11=a11,f 12=a12,f 13=a13,f 14=a14
  go_step
  go_step
  refine mg fun K2 kL=>?_
  have HT:Hid (∀(u48 u49 u50 u51 u52 u53 u54 u55 u56:Value) (p':Nat) (V':World),PrV p'->DrP B pt w v l (m+63) ⟨ck,cs,ct,cl,cq,ci,p',cg⟩ V'->K2 { tmps:=#[h3 B 0,H ids,M,M,yq w 0,h3 pt 0,h3 B 0,H y,.bool false,.bool false,M,M,.bool false,.bool false,M,M,M,M,M,M,.bool false,.bool false,M,M,M,M,M,M,M,M,.bool false,.bool false,M,a0,a1,a2,a3,a4,a5,a6,a7,a8,a9,a10,a11,a12,a13,a14,u48,u49,u50,u51,u52,u53,u54,u55,u56,M,M,M,M,M,M,M,M,M],defers:=[] } V'):=by
   intro u48 u49 u50 u51 u52 u53 u54 u55 u56 p' V' hpw hP;have HPW:=U hpw;clear hpw;have HP1:=U hP;clear hP HP;refine O kL _ _ ?_;clear kL;refine mg fun K3 vZ=>?_
   have qg:Hid (∀(u48 u49 u50 u51 u52 u53 u54 u55 u56 u57 u58 u59 u60 u61 u62 u63 u64:Value) (l':Int) (V2:World),Mi l'->DrP B pt w v l (m+66) ⟨ck,cs,ct,l',cq,ci,p',cg⟩ V2->K3 { tmps:=#[h3 B 0,H ids,M,M,yq w 0,h3 pt 0,h3 B 0,H y,.bool false,.bool false,M,M,.bool false,.bool false,M,M,M,M,M,M,.bool false,.bool false,M,M,M,M,M,M,M,M,.bool false,.bool false,M,a0,a1,a2,a3,a4,a5,a6,a7,a8,a9,a10,a11,a12,a13,a14,u48,u49,u50,u51,u52,u53,u54,u55,u56,u57,u58,u59,u60,u61,u62,u63,u64,M],defers:=[] } V2):=by
    intro u48 u49 u50 u51 u52 u53 u54 u55 u56 u57 u58 u59 u60 u61 u62 u63 u64 l' V2 hml hP;have HML:=U hml;clear hml;have pY:=U hP.dc.t;have ul:Hid ((V2.setCells w.heap.size 0 (yy ck cs ct l' cq ci p' cg)).rangeAt w.heap.size 0 (yy ck cs ct l' cq ci p' cg)):=yY _ _ _ _ hP.dc.t;have qi:Hid (du B w v l (m+66) (V2.setCells w.heap.size 0 (yy ck cs ct l' cq ci p' cg))):=gQ (O HV) hP.dc.e hB yb _;obtain⟨o0,o1,o2,o3,o4,o5,o6,o7⟩:=yE (hP.r);clear hP HP1;refine O vZ _ _ ?_;clear vZ
    repeat (first|(refine wpList_store_mid rfl 37 (.tmp 4) (.tmp 65) rfl w.heap.size 0 (yy ck cs ct l' cq ci p' cg).toArray rfl rfl (O pY) (by kernel_rfl) (by simp[Value.oneCell']) ?_;change wpList _ _ _ _ _ (V2.setCells w.heap.size 0 (yy ck cs ct l' cq ci p' cg)))|go_step)
    generalize V2.setCells w.heap.size 0 (yy ck cs ct l' cq ci p' cg)=WF at ul qi |-;have d0:=O ul 0 _ rfl;have d1:=O ul 1 _ rfl;have d2:=O ul 2 _ rfl;have d3:=O ul 3 _ rfl;have d4:=O ul 4 _ rfl;have d5:=O ul 5 _ rfl;have d6:=O ul 6 _ rfl;have d7:=O ul 7 _ rfl;simp only[Nat.zero_add] at d0 d1 d2 d3 d4 d5 d6 d7;refine bodyPost_ret (by simp[results,Tryz.results16,go_sem,d0,d1,d2,d3,d4,d5,d6,d7];try rfl) rfl ?_;exact⟨⟨ck,cs,ct,l',cq,ci,p',cg⟩,rfl,⟨O HCG,(O HPW).1⟩,⟨(O br).1,(O br).2.1,(O br).2.2.1,O HML,(O br).2.2.2.2.1,(O br).2.2.2.2.2.1,(O HPW).2⟩,eY (O qi).1 (by omega),(O qi).2⟩
   clear vZ;have o2:V'.cell? (Y pt 2)=some (H ct):=(O HP1).r 2 _ rfl;go_wp2_with fail;refine(iA ct V').mono ?_;rintro e V3 ⟨rfl,rfl⟩;cases K:dj ct
   ·go_wp2_with fail;exact O qg _ _ _ _ _ _ _ _ _ _ _ _ _ _ _ _ _ cl V3 (O br).2.2.2.1 (drP_more (O HP1) (by omega))
   ·go_wp2_with fail;refine(chance_any B v l (m+63) 3 V3 (O HP1).dc.e.1 (by omega) (by omega) (by omega)).mono ?_;rintro e V4 ⟨b,rfl,hE⟩;have HP4:=U (drP_step (O HP1) hB hsp hE);clear hE;cases b
    ·go_wp2_with fail;exact O qg _ _ _ _ _ _ _ _ _ _ _ _ _ _ _ _ _ cl V4 (O br).2.2.2.1 (drP_more (O HP4) (by omega))
    ·have o3:V4.cell? (Y pt 3)=some (H cl):=(O HP4).r 3 _ rfl;have z3:V4.frozen? (Y pt 3)=false:=by have:=((O HP4).t 3 (by omega)).2;rwa[Nat.zero_add] at this
     have HP5:=U (drP_set (c':=⟨ck,cs,ct,1,cq,ci,p',cg⟩) (O HP4) (O HV) hB hsp 3 (H 1) (by omega) rfl);go_wp2_with fail;exact O qg _ _ _ _ _ _ _ _ _ _ _ _ _ _ _ _ _ 1 _ (mi_of (by omega) (by omega)) (drP_more (O HP5) (by omega))
  clear kL;have o2:V.cell? (Y pt 2)=some (H ct):=(O HP).r 2 _ rfl
  by_cases hty:ct=2
  ·subst hty;go_wp2_with fail;exact O HT _ _ _ _ _ _ _ _ _ cp V (O HCP) (drP_more (O HP) (by omega))
  ·have K:(ct != 2)=true:=by simpa using hty
   go_wp2_with fail;refine(ei B v l (m+60) 9 V (O HP).dc.e.1 (by omega) (by omega) (by omega)).mono ?_;rintro e V2 ⟨y9,rfl,h90,h91,hE⟩;obtain⟨k9,rfl⟩:=Int.eq_ofNat_of_zero_le h90;obtain⟨pa,pb,pc,hpo,hpw⟩:=prO_any k9 (by omega);have HPW:=U hpw;clear hpw;have HP2:=U (drP_step (O HP) hB hsp hE);have f1:=fun W=>(hpo W).1;have f2:=fun W=>(hpo W).2.1;have f3:=fun W=>(hpo W).2.2;have o6:V2.cell? (Y pt 6)=some (yk cp):=(O HP2).r 6 _ rfl;have z6:V2.frozen? (Y pt 6)=false:=by have:=((O HP2).t 6 (by omega)).2;rwa[Nat.zero_add] at this
   have HP3:=U (drP_set (c':=⟨ck,cs,ct,cl,cq,ci,pc,cg⟩) (O HP2) (O HV) hB hsp 6 (yk pc) (by omega) rfl);have qm:(store (Y pt 6) (yk pc)).run Tryz.prog V2 = .ok () (V2.setCell (Y pt 6) (yk pc)):=by rw[run_store _ _ _ _ _ rfl,o6,z6];rfl
   clear hE hpo;go_wp2_with fail;exact O HT _ _ _ _ _ _ _ _ _ pc _ (O HPW) (drP_more (O HP3) (by omega))
 ·rintro x md V j o ⟨f,rfl,aX,hD⟩ xo hx D xA X;have qh:=U aX;have HD:=U hD
  have kk:j<16->¬ x[16]? = some true:=fun xK h16=>by
   have e:∀i,i<16->x[i]? = some true:=fun i hi=>by
    rcases(by omega:i=0\/i=1\/i=2\/i=3\/i=4\/i=5\/i=6\/i=7\/i=8\/i=9\/i=10\/i=11\/i=12\/i=13\/i=14\/i=15) with rfl|rfl|rfl|rfl|rfl|rfl|rfl|rfl|rfl|rfl|rfl|rfl|rfl|rfl|rfl|rfl
    all_goals exact xo 16 _ rfl h16 ⟨_,.phase⟩ (by simp) rfl
   rw[e j xK] at xA;cases xA
  have aj:x.count true<=17:=by have:=List.count_le_length (a:=true) (l:=x);rw[hx] at this;simpa using this
  clear aX xo
  match j,D with
  | 0,D|4,D|8,D|11,D =>
   cases D;have nk:=kk (by omega);clear X hD;go_simp;exact⟨upd f _ (h3 B 0),by simp[upd],eH (O HD) (by decide) xA (fun _ _ h=>h) (gB (O qh nk)) rfl⟩
  | 1,D =>
   cases D;have nk:=kk (by omega);have gd:f 0=h3 B 0:=hD 0 (yf X 0 rfl);obtain⟨mm,hmm,og⟩:=O qh nk;have HEE:=U og;have hcnt:mm<=900000000:=by omega
   clear og;clear X hD;go_simp;refine(ei B v l mm 2 V (O HEE).1 (by omega) (by omega) (by omega)).mono ?_;rintro e w5 ⟨y5,rfl,-,-,hE5⟩;exact⟨upd f 1 (H y5),by simp[upd,gd],eH (O HD) (by decide) xA (ic nk hB1 hE5.2) (bsd_call hmm (O HEE) hE5) ⟨y5,rfl⟩⟩
  | 2,D =>
   cases D;have nk:=kk (by omega);obtain⟨y5,gd⟩:=hD 1 (yf X 1 rfl);clear X hD;go_simp;exact⟨upd f 2 (H (IntKind.i64.wrap (1+y5))),by simp[upd,gd],eH (O HD) (by decide) xA (fun _ _ h=>h) (gB (O qh nk)) ⟨_,rfl,mi_wrap _⟩⟩
  | 3,D =>
   cases D;have nk:=kk (by omega);have hS:W1.heap.size<=V.heap.size:=by obtain⟨mm,hmm,og⟩:=O qh nk;exact og.2.size
   clear X hD;go_simp;exact⟨upd f 3 (.slice (some (yr V 0)) 8 8),by simp[upd],eH (O HD) (by decide) xA (ic nk hB1 (fw _ _ _)) (bsd_alloc (O qh nk) _) ⟨V.heap.size,rfl,hS,fun _=>(zo V tys8 _).r⟩⟩
  | 5,D =>
   cases D;have nk:=kk (by omega);have gd:f 4=h3 B 0:=hD 4 (yf X 4 rfl);obtain⟨mm,hmm,og⟩:=O qh nk;have HEE:=U og;have hcnt:mm<=900000000:=by omega
   clear og;clear X hD;go_simp;refine(ei B v l mm 8 V (O HEE).1 (by omega) (by omega) (by omega)).mono ?_;rintro e w5 ⟨y5,rfl,h50,h51,hE5⟩;obtain⟨k5,rfl⟩:=Int.eq_ofNat_of_zero_le h50;exact⟨upd f 5 (H k5),by simp[upd,gd],eH (O HD) (by decide) xA (ic nk hB1 hE5.2) (bsd_call hmm (O HEE) hE5) ⟨k5,rfl,by omega⟩⟩
  | 6,D =>
   cases D;have nk:=kk (by omega);obtain⟨g,g3,hSg,ch⟩:=hD 3 (yf X 3 rfl);obtain⟨k,g5,E⟩:=hD 5 (yf X 5 rfl);have HRG:=U (ch nk);have hki:(k:Int)<8:=by omega
   clear ch;clear X hD;go_simp;exact⟨upd f 6 (h3 g k),by simp[upd,g3,g5],eH (O HD) (by decide) xA (fun _ _ h=>h) (gB (O qh nk)) ⟨g,k,rfl,E,hSg,fun _=>O HRG⟩⟩
  | 7,D =>
   cases D;have nk:=kk (by omega);obtain⟨g,k,g6,E,hSg,ch⟩:=hD 6 (yf X 6 rfl);obtain⟨y7,hc7,hm7⟩:=tys8_at (ch nk) E;have HM7:=U hm7;clear hm7;clear ch;clear X hD;go_simp;exact⟨upd f 7 (H y7),by simp[upd,g6],eH (O HD) (by decide) xA (fun _ _ h=>h) (gB (O qh nk)) ⟨_,rfl,O HM7⟩⟩
  | 9,D =>
   cases D;have nk:=kk (by omega);have gd:f 8=h3 B 0:=hD 8 (yf X 8 rfl);obtain⟨mm,hmm,og⟩:=O qh nk;have HEE:=U og;have hcnt:mm<=900000000:=by omega
   clear og;clear X hD;go_simp;refine(ei B v l mm 12 V (O HEE).1 (by omega) (by omega) (by omega)).mono ?_;rintro e w5 ⟨y5,rfl,-,-,hE5⟩;exact⟨upd f 9 (H y5),by simp[upd,gd],eH (O HD) (by decide) xA (ic nk hB1 hE5.2) (bsd_call hmm (O HEE) hE5) ⟨y5,rfl⟩⟩
  | 10,D =>
   cases D;have nk:=kk (by omega);obtain⟨y5,gd⟩:=hD 9 (yf X 9 rfl);clear X hD;go_simp;exact⟨upd f 10 (H (IntKind.i64.wrap (1+y5))),by simp[upd,gd],eH (O HD) (by decide) xA (fun _ _ h=>h) (gB (O qh nk)) ⟨_,rfl,mi_wrap _⟩⟩
  | 12,D =>
   cases D;have nk:=kk (by omega);have hS:W1.heap.size<=V.heap.size:=by obtain⟨mm,hmm,og⟩:=O qh nk;exact og.2.size
   clear X hD;go_simp;exact⟨upd f 12 (.slice (some (yr V 0)) 3 3),by simp[upd],eH (O HD) (by decide) xA (ic nk hB1 (fw _ _ _)) (bsd_alloc (O qh nk) _) ⟨V.heap.size,rfl,hS,fun _=>(zo V (tag3.map .string) _).r⟩⟩
  | 13,D =>
   cases D;have nk:=kk (by omega);have gd:f 11=h3 B 0:=hD 11 (yf X 11 rfl);obtain⟨g,gs,hSg,ch⟩:=hD 12 (yf X 12 rfl);have HRG:=U (ch nk);clear ch;obtain⟨mm,hmm,og⟩:=O qh nk;have HEE:=U og;have hcnt:mm<=900000000:=by omega
   clear og;clear X hD;go_simp;refine(pick_any B g 3 v l mm tag3 V (O HEE).1 (by omega) (by omega) rfl (by omega) (by omega) (fun k s hs=>by have:=O HRG k (yl s) (by rw[List.getElem?_map,hs];rfl);rwa[Nat.zero_add] at this)).mono ?_;rintro e w5 ⟨s5,rfl,hs5,hE5⟩;exact⟨upd f 13 (yl s5),by simp[upd,gd,gs],eH (O HD) (by decide) xA (ic nk hB1 hE5.2) (bsd_call hmm (O HEE) hE5) ⟨s5,rfl,tag3_len s5 hs5⟩⟩
  | 14,D =>
   cases D;have nk:=kk (by omega);obtain⟨y2,g2,i2⟩:=hD 2 (yf X 2 rfl);obtain⟨y7,g7,i7⟩:=hD 7 (yf X 7 rfl);obtain⟨cE,kN,i10⟩:=hD 10 (yf X 10 rfl);obtain⟨s13,pA,hs13⟩:=hD 13 (yf X 13 rfl);have HII:Hid (Mi y2/\Mi y7/\Mi cE):=⟨i2,i7,i10⟩;clear X hD i2 i7 i10;go_simp;exact⟨upd f 14 (.agg (Cm.mk 1 y2 y7 0 cE 0 0 s13).vs.toArray),by simp[upd,g2,g7,kN,pA,Cm.vs],eH (O HD) (by decide) xA (fun _ _ h=>h) (gB (O qh nk)) ⟨⟨1,y2,y7,0,cE,0,0,s13⟩,rfl,⟨hs13,eP (by kernel_rfl)⟩,drIn_new (O HII).1 (O HII).2.1 (O HII).2.2⟩⟩
  | 15,D =>
   cases D;have nk:=kk (by omega);have hS:W1.heap.size<=V.heap.size:=by obtain⟨mm,hmm,og⟩:=O qh nk;exact og.2.size
   clear X hD;go_simp;exact⟨upd f 15 (yq V 0),by simp[upd],eH (O HD) (by decide) xA (ic nk hB1 (fw _ _ _)) (bsd_alloc (O qh nk) _) ⟨V.heap.size,rfl,hS,fun _=>⟨by simp,(zo V (yy 0 0 0 0 0 0 0 ⟨#[]⟩) _).t⟩,fun q=>absurd q nk⟩⟩
  | 16,D =>
   cases D;have nk0:¬ x[16]? = some true:=by rw[xA];simp
   obtain⟨⟨ck,cs,ct,cl,cq,ci,cp,cg⟩,bP,aY⟩:=hD 14 (yf X 14 rfl);obtain⟨pt,g15,hSp,uO,-⟩:=hD 15 (yf X 15 rfl);obtain⟨uO,jY⟩:=uO nk0;obtain⟨mm,hmm,og⟩:=O qh nk0;have hsv:w.heap.size<V.heap.size:=yK xG og.2.size;have HDC:Hid (DrC B w.heap.size w v l (m+60) (V.setCells pt 0 (Cm.mk ck cs ct cl cq ci cp cg).vs)):=⟨gQ (O HV) ⟨eY og.1 (by omega),zr (O ji).e.2 og.2⟩ hB (by omega) _,xc (fK (O ji).t og.2 xG (fun e=>by have:=Option.some.inj e;omega)) pt 0 _⟩;have HFI:Hid ((V.setCells pt 0 (Cm.mk ck cs ct cl cq ci cp cg).vs).rangeAt pt 0 (Cm.mk ck cs ct cl cq ci cp cg).vs/\(V.setCells pt 0 (Cm.mk ck cs ct cl cq ci cp cg).vs).there pt 0 8/\pt<(V.setCells pt 0 (Cm.mk ck cs ct cl cq ci cp cg).vs).heap.size):=⟨yY _ _ _ _ jY,xc jY pt 0 _,yK uO (gr_setsD pt _ 0 V).size⟩;clear X hD og;rw[if_pos (by rfl)];refine wp_store_mid 37 (.tmp 5) (.tmp 47) rfl pt 0 (Cm.mk ck cs ct cl cq ci cp cg).vs.toArray g15 bP jY (by kernel_rfl) (by simp[Value.oneCell',Cm.vs]) ?_;refine⟨upd f 16 M,by simp[upd,Act.put],rs_last (O HD) xA (fun j hj hxj h=>?_) trivial⟩
   match j with
   | 3=>obtain⟨g,Z,Q,I⟩:=h;exact⟨g,Z,Q,fun q=>absurd trivial q⟩
   | 6=>obtain⟨g,k,Z,Q,I,h4⟩:=h;exact⟨g,k,Z,Q,I,fun q=>absurd trivial q⟩
   | 12=>obtain⟨g,Z,Q,I⟩:=h;exact⟨g,Z,Q,fun q=>absurd trivial q⟩
   | 15=>exact⟨pt,g15,hSp,fun q=>absurd trivial q,fun _=>⟨⟨ck,cs,ct,cl,cq,ci,cp,cg⟩,aY,(O HFI).1,(O HFI).2.1,(O HFI).2.2,O HDC⟩⟩
   | 16=>exact absurd rfl hj
   | 0|1|2|4|5|7|8|9|10|11|13|14=>exact h
   | j+17=>trivial
  | j+17,D=>simp at D
theorem Tryz.infoCmdD:(Tryz.prog.info? 37).map (fun i=>(i.zero,i.size,i.bytes))=some (some (.agg (yy 0 0 0 0 0 0 0 ⟨#[]⟩).toArray),8,72):=by kernel_rfl
theorem cells_srcD (w:World)(cs:List Value)(t:TypeId)(j:Nat)(u:Value)(h:cs[j]? = some u):(w.alloc (Obj.cells cs.toArray t)).cell? (((yr w 0):Addr).add j)=some u:=by
 rw[Addr.add_mid,cell_of_row _ w.heap.size (0+j) cs.toArray t (0,0) (heap_alloc_new w _)];simpa using h
theorem gr_newD {w wr w2:World}{B:Nat}{row:Option Nat}(h:w.grownBy wr (some B))(F:wr.grownBy w2 row)(hr:∀k,row=some k->w.heap.size<=k):w.grownBy w2 (some B):=
 ⟨F.os.trans h.os,F.tape.trans h.tape,F.output.trans h.output,yO h.size F.size,
  fun i hi xE=>(F.block i (yK hi h.size) (fun e=>by have:=hr i e.symm;omega)).trans (h.block i hi xE)⟩
theorem gy {W:World}{B e z n:Nat}{v:Value}{xs:List Value}(h:W.ownsRow B e z v n xs):∃a cap,v = .slice a n cap:=by
 rcases h.2 with⟨Z,Q⟩|⟨g,cap,xt,Z,_⟩
 ·exact⟨none,0,by rw[Z,Q]⟩
 ·exact⟨_,_,Z⟩
theorem own_baseD {W:World}{B B' e z n:Nat}{v:Value}{xs:List Value}(h:W.ownsRow B e z v n xs)(hB:B'<=B):W.ownsRow B' e z v n xs:=by
 refine⟨h.1,?_⟩;rcases h.2 with h|⟨g,cap,xt,Z,Q,I⟩
 ·exact .inl h
 ·exact .inr ⟨g,cap,xt,Z,yO hB Q,I⟩
theorem script_in (B:Nat)(v:Value)(l:List Int)(m:Int)(w:World)(h:Src B w v l m)(hm:m<=1000000) :
  Calls Tryz.prog 9 #[h3 B 0] w fun e w'=>∃(o:Value) (cs:List Cm),e=yn o/\(∀c∈cs,DrOk c/\DrIn c)/\cs.length<=27/\w'.ownsRow w.heap.size 37 8 o cs.length (cs.flatMap Cm.vs)/\w.grownBy w' (some B):=by
 obtain⟨i0,hi,ub,xX,uh⟩:=info_parts Tryz.infoCmdD;have HV:=U (src_far h);have HS:=U h;have hB:=src_lt h;clear h;go_enter Tryz.func9,Tryz.ntmps9;go_wp2_with fail;refine(size_any B v l m 24 _ (gA (fP (O HS)) _).1 (by omega) (by omega)).mono ?_;rintro e w1 ⟨y,rfl,ph,cz,rfl⟩;have hwr:IntKind.i64.wrap (y+4)=y+4:=by rw[IntKind.wrap_i64];omega
 go_wp2_with fail;refine(ei B v l m (y+4) _ (gA (fP (O HS)) _).1 (by omega) (by omega) (by omega)).mono ?_;rintro e w1 ⟨j0,rfl,ax,hj1,hE⟩;have HE:=U (show du B w v l (m+3) w1 from⟨hE.1,zr (fw w _ _) hE.2⟩);have HO:=U ((World.ownsRow_made (base:=w.heap.size) (e:=37) (size:=8) w #[] 0 yb (by decide) rfl).kept hE.2 (.inr (by simp[Value.ownBlock];omega)));clear hE;go_wp2_with fail;go_loopw [3,4] (fun ov iv wr=>∃(cs:List Cm) (j:Nat),iv=H j/\cs.length+j<=27/\(∀c∈cs,DrOk c/\DrIn c)/\wr.ownsRow w.heap.size 37 8 ov cs.length (cs.flatMap Cm.vs)/\Src B wr v l (m+3+100*cs.length)/\w.grownBy wr (some B)) (fun _ iv _=>(intOf iv).toNat)
 case atStart =>
  obtain⟨j,rfl⟩:=Int.eq_ofNat_of_zero_le ax;exact⟨[],j,rfl,by simp;omega,by simp,O HO,by simpa using(O HE).1,(O HE).2⟩
 case round =>
  obtain⟨cs,j,rfl,xC,hxs,xu,vd,uN⟩:=hrel;have HX:=U hxs;have vD:=U xu;have HSR:=U vd;have vu:=U uN;have xE:Hid (∀k,k<w.heap.size->u3.ownBlock≠some k):=fun k E e=>by have:=(xu.lt k e).1;omega
  obtain⟨ao,co,rfl⟩:=gy xu;clear hxs xu vd uN HE HO
  by_cases hj:j=0
  ·subst hj;go_wp2_with fail;go_ret;exact⟨_,cs,rfl,O HX,by omega,O vD,O vu⟩
  have pO:(0:Int)<j:=by omega
  clear hj;go_wp2_with fail;refine(cmd_drawn B v l _ cs.length _ (O HSR) (by omega) (by omega) (by omega)).mono ?_;rintro e w3 ⟨⟨ck,c1,ct,cl,cq,ci,cp,cg⟩,rfl,aY,hdi,hE3⟩;have aO:=U hE3;have qO:=U ((O vD).kept hE3.2 (.inr (O xE B hB)));have HCG:Hid (DrOk ⟨ck,c1,ct,cl,cq,ci,cp,cg⟩/\DrIn ⟨ck,c1,ct,cl,cq,ci,cp,cg⟩):=⟨aY,hdi⟩;clear hE3 aY hdi;unfold Cm.vs;simp only;have qv:w.heap.size<=w3.heap.size:=yO (O vu).size (O aO).2.size;go_wp2_with (at_builtin;go_must (refine wpList_append_own _ rfl _ _ 23 rfl w.heap.size 37 i0 _ 8 72 Tryz.underlying23 hi ub xX uh rfl (by decide) _ cs.length (cs.flatMap Cm.vs) rfl ((O qO).alloc _) (yr w3 0) 1 1 (Cm.vs ⟨ck,c1,ct,cl,cq,ci,cp,cg⟩) rfl rfl (cells_srcD w3 _ _) (by simp[Value.oneCell',Cm.vs]) (by unfold maxLen;omega) (by omega) (by simp;omega) ?_);intro v4 w4 kj jH _);go_roundw
  case rel =>
   refine⟨cs ++ [⟨ck,c1,ct,cl,cq,ci,cp,cg⟩],j-1,by go_num,by simp;omega,?_,by simpa using kj,?_,?_⟩
   ·intro x hx;rcases List.mem_append.1 hx with hx|hx
    ·exact O HX x hx
    ·rw[List.mem_singleton.1 hx];exact O HCG
   ·refine eY (src_keep (gA (fP (O aO).1) _).1 jH (fun e=>O xE B hB e.symm) (fun hn e=>?_)) (by simp;omega);obtain⟨k,Z,Q⟩:=O HV hn;exact O xE k Q (e ▸ Z)
   ·exact gr_newD (zr (zr (O vu) (O aO).2) (fw w3 _ _)) jH (fun k E=>((O qO).lt k E).1)
  case measure=>simp[intOf];omega
theorem scriptOf_in (v:Value)(l:List Int)(w:World)(h:Rd w v l)(K:Bts l) :
  Calls Tryz.prog 4 #[v] w fun e w'=>∃(o:Value) (cs:List Cm),e=yn o/\(∀c∈cs,DrOk c/\DrIn c)/\cs.length<=27/\w'.ownsRow w.heap.size 37 8 o cs.length (cs.flatMap Cm.vs)/\yp w w':=by
 have HR:=U h;have HB:=U K;obtain⟨a,cap,rfl,hl,_⟩:=h;clear K;go_enter Tryz.func4,Tryz.ntmps4;go_wp2_with fail;refine(source_any _ l _ (O HR) (O HB)).mono ?_;rintro e w1 ⟨rfl,hS,ud⟩;have HS:=U hS;have ui:=U ud;clear hS ud;go_wp2_with fail;refine(script_in _ _ l _ _ (O HS) (by omega)).mono ?_;rintro e w2 ⟨o,cs,rfl,Z,Q,I,hE⟩;have HX:=U Z;have HO:=U I;have HE:=U hE;clear hE Z I;go_wp2_with fail;go_ret;exact⟨_,cs,rfl,O HX,Q,own_baseD (O HO) (O ui).size,own_below_grown (O ui) yb (O HE)⟩

theorem cellsJ {W:World}{s:Nat}(hs:W.heap.size=s)(cs:List Value)(t:TypeId)(j:Nat)(u:Value)(h:cs[j]? = some u):(W.alloc (Obj.cells cs.toArray t)).cell? (((Y s 0):Addr).add j)=some u:=by
 subst hs;exact cells_srcD W cs t j u h
theorem own_keep {w w':World}{base e z n:Nat}{v:Value}{xs:List Value}(h:w.ownsRow base e z v n xs)(K:yp w w'):w'.ownsRow base e z v n xs:=
 h.kept (ft (G:=none) K yb) (by cases hv:v.ownBlock with|none=>exact .inl rfl|some k=>exact .inr (by simp))
end Go.Proofs.YtkofhemdefffpaaGreatDoor
