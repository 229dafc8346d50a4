/-.-/
import Derived.Test.YtkofhemdefffpaaGreatDoorPq05
import Derived.Laws.AppendOwnNone
import Derived.Laws.CopyOwn
import Derived.Deep.AppendLies
import Derived.Deep.RegionLaw
import Derived.WalkMore
import Derived.Deep.RegionHeld3
set_option linter.unusedVariables false
set_option maxHeartbeats 6400000
set_option maxRecDepth 100000
namespace Go.Proofs.YtkofhemdefffpaaGreatDoor
open Go.RowKit
def SlOk (v:Value):Prop:=v = .slice none 0 0 \/ ∃ad n c,v = .slice (some ad) n c
theorem iq {W:World}{B:Nat}{v:Value}{l:List Od}(h:ORow W B v l):SlOk v:=by
 rcases h.2 with⟨Z,_⟩|⟨g,cap,xt,Z,_⟩
 ·exact .inl Z
 ·exact .inr ⟨_,_,_,Z⟩
theorem rd_src {W:World}{ad:Addr}{cap:Nat}{l:List Od}(hr:RdR Od.vs 6 W (.slice (some ad) l.length cap) l):∀j u,(l.flatMap Od.vs)[j]? = some u->W.cell? (ad.add j)=some u:=by
 intro j u hu;obtain⟨a',jd,e1,_,hc⟩:=hr;simp only[Value.slice.injEq] at e1;have xE:l ≠ []:=by rintro rfl;simp at hu
 obtain⟨b,off,e2,K,xo⟩:=hc xE;rw[e2] at e1;simp only[Option.some.injEq] at e1;obtain⟨rfl,-,-⟩:=e1;have h:=ia (W:=W) (g:=b) (off:=off) (l:=l) xo 0 l.length j u (by simpa using hu);simpa using h
theorem rd_lenF {W:World}{v:Value}{l:List Od}(h:RdR Od.vs 6 W v l):∃a c,v = .slice a l.length c:=by
 obtain⟨a,c,Z,_⟩:=h;exact⟨a,c,Z⟩
theorem zU {W:World}{b c o k j:Nat}{u:Value}(h:W.there b o k):(W.setCell (Y c j) u).there b o k:=xc (vs:=[u]) h c j
theorem eU {W:World}{B:Nat}{v:Value}{l:List Od}(h:ORow W B v l){b:Nat}(K:b<B)(o:Nat)(u:Value):ORow (W.setCell (Y b o) u) B v l:=
 ownsRow_setCell_below h (a:=(Y b o)) K u
theorem copy_mid {w W2 w3:World}{S:Nat}{v3 sv:Value}{next:Int}{l:List Od}(hS:S=w.heap.size)(Z:Below S w W2)(Q:W2.heap.size=S+2)(I:W2.rangeAt S 0 [H next,sv])(h4:W2.there S 0 2)(h5:W2.there (S+1) 0 2)(hl:l.length<=1000)
  (h6:w3.ownsRow (S+2) 71 6 v3 (0+l.length) ([]++l.flatMap Od.vs)) (h7:W2.grownBy w3 (Value.slice none 0 0).ownBlock) :
  ∃a3 c3,v3 = .slice a3 l.length c3/\ORow w3 (S+2) v3 l/\w3.cell? (Y S 0)=some (H next)/\w3.cell? (Y S 1)=some sv/\w3.frozen? (Y S 1)=false/\w3.there (S+1) 0 2/\Below S w w3/\S+2<=w3.heap.size:=by
 have h6':ORow w3 (S+2) v3 l:=by
  show w3.ownsRow _ _ _ _ l.length _;simpa using h6
 obtain⟨a3,c3,e⟩:=rd_lenF (zZ h6' (by omega));have r:=zv I h7 (by omega) (by simp[Value.ownBlock]);refine⟨a3,c3,e,h6',r 0 _ rfl,r 1 _ rfl,?_,fK h5 h7 (by omega) (by simp[Value.ownBlock]),Z.grown h7 (by omega) (fun k E=>by simp[Value.ownBlock] at E),by have:=h7.size;omega⟩;have:=(fK h4 h7 (by omega) (by simp[Value.ownBlock]) 1 (by omega)).2;rwa[Nat.zero_add] at this
theorem copyBook_any (next:Int)(v:Value)(l:List Od)(w:World)(hr:RdR Od.vs 6 w v l)(hs:SlOk v)(hn:l.length<=1000) :
  Calls Tryz.prog 102 #[.agg #[H next,v]] w fun e w'=>∃v',e=yn (.agg #[H next,v'])/\ORow w' w.heap.size v' l/\yp w w':=by
 have HR:=U hr;obtain⟨i0,uo,ub,xX,uh⟩:=info_parts Tryz.infoOrder;obtain⟨a,cap,rfl,xC,hc⟩:=hr;have xG:=zi w (me #[H next,.slice a l.length cap] 31);have ug:((w.alloc (me #[H next,.slice a l.length cap] 31)).alloc (me #[H 0,.slice none 0 0] 31)).heap.size=w.heap.size+2:=by rw[zi,xG]
 have t1:=zM w [H next,.slice a l.length cap] 31;have r1:=zm w [H next,.slice a l.length cap] 31;have b1:Below (w.heap.size+1) (w.alloc (me #[H next,.slice a l.length cap] 31)) ((w.alloc (me #[H next,.slice a l.length cap] 31)).alloc (me #[H 0,.slice none 0 0] 31)):=(Below.refl _ _).alloc (by rw[xG];omega) _;have t2:=zM (w.alloc (me #[H next,.slice a l.length cap] 31)) [H 0,.slice none 0 0] 31;rw[xG] at t2;have HX:Hid (_/\_/\_):=⟨zf r1 b1 (by omega),zk t1 b1 (by omega),t2⟩;have vf:Hid (yp w ((w.alloc (me #[H next,.slice a l.length cap] 31)).alloc (me #[H 0,.slice none 0 0] 31))):=(mc _ _).alloc (by rw[xG];omega) _;have xZ:=U ug;clear hc t1 r1 b1 t2 xG ug;go_enter Tryz.func102,Tryz.ntmps102;rcases hs with hs|⟨ad,nn,cc,hs⟩
 ·simp only[Value.slice.injEq] at hs;obtain⟨rfl,oJ,rfl⟩:=hs;obtain rfl:=List.length_eq_zero_iff.1 oJ;go_wp2_with (at_builtin;go_must (refine wpList_append_own_none rfl _ _ 29 rfl (w.heap.size+2) 71 i0 6 Tryz.underlying29 uo (.slice none 0 0) 0 [] rfl (World.ownsRow_nil _ _ _ _) rfl ?_));go_returns;refine⟨_,rfl,World.ownsRow_nil _ _ _ _,?_⟩;go_grown
 ·simp only[Value.slice.injEq] at hs;obtain⟨rfl,rfl,rfl⟩:=hs;have uk:Hid (∀j u,(l.flatMap Od.vs)[j]? = some u->World.cell? (((w.alloc (me #[H next,.slice (some ad) l.length cap] 31)).alloc (me #[H 0,.slice none 0 0] 31))) (ad.add j)=some u):=rd_src (zq (O HR) (O vf) yb);go_wp2_with (at_builtin;go_must (refine wpList_append_own _ rfl _ _ 29 rfl (w.heap.size+2) 71 i0 _ 6 56 Tryz.underlying29 uo ub xX uh rfl (by decide) (.slice none 0 0) 0 [] rfl (World.ownsRow_nil _ _ _ _) ad l.length cap (l.flatMap Od.vs) rfl (by rw[dT Od.len]) (O uk) (fQ l) (by unfold maxLen;omega) (by omega) (by rw[O xZ];omega) ?_);intro v3 w3 aD ua _;obtain⟨a3,c3,rfl,oK,c0,c1,f1,ht3,xV,qv⟩:=copy_mid rfl (O vf) (O xZ) (O HX).1 (O HX).2.1 (O HX).2.2 hn aD ua;have qO:=U oK;have jQ:=U ht3;have xL:=U xV;obtain⟨v0,z0,q0⟩:=zN ht3 0 (by omega);obtain⟨v1,z1,q1⟩:=zN ht3 1 (by omega);clear oK ht3 xV aD ua)
  have z0:w3.cell? (Y (w.heap.size+1) 0)=some v0:=z0;have z1:w3.cell? (Y (w.heap.size+1) 1)=some v1:=by rw[Nat.zero_add] at z1;exact z1
  have q0:w3.frozen? (Y (w.heap.size+1) 0)=false:=q0;have q1:w3.frozen? (Y (w.heap.size+1) 1)=false:=by rw[Nat.zero_add] at q1;exact q1
  have kM:=U (yY (w3.setCell (yr w 1) (.slice a3 l.length c3)) (w.heap.size+1) 0 [H next,.slice a3 l.length c3] (fun j hj=>(zU (O jQ)) j hj));have HOX:=U (eU (eU (eU (O qO) (b:=w.heap.size) (by omega) 1 (.slice a3 l.length c3)) (b:=w.heap.size+1) (by omega) 0 (H next)) (b:=w.heap.size+1) (by omega) 1 (.slice a3 l.length c3));have qx:=U ((((O xL).setCell (p:=(yr w 1)) yb (.slice a3 l.length c3)).setCell (p:=(Y (w.heap.size+1) 0)) (by simp) (H next)).setCell (p:=(Y (w.heap.size+1) 1)) (by simp) (.slice a3 l.length c3));go_wp2_with fail;have kM:Hid (World.rangeAt (((w3.setCell (yr w 1) (.slice a3 l.length c3)).setCell (Y (w.heap.size+1) 0) (H next)).setCell (Y (w.heap.size+1) 1) (.slice a3 l.length c3)) (w.heap.size+1) 0 [H next,.slice a3 l.length c3]):=O kM;generalize (((w3.setCell (yr w 1) (.slice a3 l.length c3)).setCell (Y (w.heap.size+1) 0) (H next)).setCell (Y (w.heap.size+1) 1) (.slice a3 l.length c3))=WE at kM HOX qx |-;have d0:WE.cell? (Y (w.heap.size+1) 0)=some (H next):=O kM 0 _ rfl;have d1:WE.cell? (Y (w.heap.size+1) 1)=some (.slice a3 l.length c3):=O kM 1 _ rfl
  try simp only[Exit.inBlock,Exit.then]
  refine bodyPost_ret (by simp[results,Tryz.results102,go_sem,d0,d1];try rfl) rfl ?_;exact⟨_,rfl,fM (O HOX) (by omega),O qx⟩
theorem lR {P:Program}{w:World}{cB:Array Oper}{rest:List Oper}{o:Oper}{a:Act}{h2:Exit->Act->World->Prop}(hgd:o.guard=none)(s x:Operand)(t:TypeId)
  (D:o.op = .call { callee:=.builtin .append,args:=#[s,x],argTypes:=#[t,t] })
  (e:TypeId) (i:TypeInfo) (size:Nat) (ht:P.underlying t=some (.slice e)) (hi:P.info? e=some i) (jp:i.size=size)
  (g jy aK:Nat) (xt:Array Value) (F:w.heap[g]? = some (.cells xt e (0,0))) (hs:a.eval s = .slice (some (Y g 0)) jy aK)
  (ad:Addr) (m c:Nat) (news:List Value) (hx:a.eval x = .slice (some ad) m c) (hl:news.length=m*size) (hnews:∀j u,news[j]? = some u->w.cell? (ad.add j)=some u) (Z:∀u∈news,u.oneCell'=true)
  (aI:jy+m<=aK) (ak:jy*size+news.length<=xt.size)
  (h:wpList P cB h2 rest (a.put o.dst (.slice (some (Y g 0)) (jy+m) aK)) (w.setRow g (xt.toList.take (jy*size)++news++xt.toList.drop (jy*size+news.length)).toArray)):wpList P cB h2 (o::rest) a w:=by
 subst jp;refine wpList_plain hgd fun hb hK=>?_;have hrun:=run_append_room (P:=P) w t o.type e i ht hi g jy aK xt F ad m c news hl hnews Z aI ak;unfold Oper.wp execOp;simp only[D,resolve,invoke,builtin,Sem.run_bind,Sem.run_pure,Result.andThen_ok,List.map_toArray,List.map_cons,List.map_nil,hs,hx,hrun];exact hK _ _ h
theorem clear_row {P:Program}(w:World)(T ty e:TypeId)(i:TypeInfo)(z:Value)(ht:P.underlying T=some (.slice e))(hi:P.info? e=some i)(hz:i.zero=some z)(g o c:Nat)(xt:Array Value)(F:w.heap[g]? = some (.cells xt e (0,0)))
  (ak:o+z.cells.toList.length<=xt.size) (Z:∀v∈z.cells.toList,v.oneCell'=true) :
  (Builtin.clear_ #[T] ty #[.slice (some (Y g o)) 1 c]).run P w = .ok (.tuple #[]) (w.setRow g (xt.toList.take o++z.cells.toList++xt.toList.drop (o+z.cells.toList.length)).toArray):=by
 have qm:=run_storeCells_at P g o e z.cells.toList 0 xt w F (by simpa using ak) Z;simp only[Nat.add_zero] at qm
 have hzc:(Builtin.zeroCells z.cells 1).toList=z.cells.toList:=by
  refine List.ext_getElem (by simp[Builtin.zeroCells]) fun j Z Q=>?_;have hj:j<z.cells.size:=by simpa using Q
  simp[Builtin.zeroCells,Nat.mod_eq_of_lt hj,hj]
 simp[Builtin.clear_,run_underlying ht,zeroValue,typeInfo,hi,hz,hzc,qm]
abbrev zOdL:List Value:=(yx 0 0 0 0 0 ⟨#[]⟩)
theorem row_gone {xt:Array Value}{l:List Od}{i m cap:Nat}{zs:List Value}(hl:l.length=i+1+m)(hc:l.length<=cap)(hs:xt.size=cap*6)(ht:xt.toList.take (l.length*6)=l.flatMap Od.vs)(hz:zs.length=6) :
  (((xt.toList.take (i*6)++(l.drop (i+1)).flatMap Od.vs++xt.toList.drop (i*6+m*6)).take ((i+m)*6)++zs++(xt.toList.take (i*6)++(l.drop (i+1)).flatMap Od.vs++xt.toList.drop (i*6+m*6)).drop ((i+m)*6+zs.length)).take ((i+m)*6)=(l.take i++l.drop (i+1)).flatMap Od.vs) /\
  (xt.toList.take (i*6)++(l.drop (i+1)).flatMap Od.vs++xt.toList.drop (i*6+m*6)).length=cap*6:=by
 have xo:xt.toList.length=cap*6:=by simpa using hs
 have hdl:((l.drop (i+1)).flatMap Od.vs).length=m*6:=by rw[dT Od.len,List.length_drop];congr 1;omega
 have hti:xt.toList.take (i*6)=(l.take i).flatMap Od.vs:=by
  have h:=congrArg (List.take (i*6)) ht;rw[List.take_take,show min (i*6) (l.length*6)=i*6 by omega] at h;rw[h]
  conv=>lhs;rw[<- List.take_append_drop i l,List.flatMap_append]
  rw[List.take_append_of_le_length (by rw[dT Od.len,List.length_take];omega),xa (by rw[dT Od.len,List.length_take];omega)]
 have xC:(xt.toList.take (i*6)++(l.drop (i+1)).flatMap Od.vs).length=(i+m)*6:=by
  rw[yQ,hdl,List.length_take,xo];omega
 refine⟨?_,?_⟩
 ·rw[List.append_assoc ((List.take _ _)),List.take_append_of_le_length (by rw[List.length_take,yQ,xC,List.length_drop,xo];omega),List.take_take,Nat.min_self,List.take_append_of_le_length (by rw[xC];omega),xa (by rw[xC];omega),hti,List.flatMap_append]
 ·rw[yQ,xC,List.length_drop,xo];omega
theorem delete_any (g i m cap B:Nat)(xt:Array Value)(l:List Od)(w:World)(hl:l.length=i+1+m)(hn:l.length<=1000)(F:w.heap[g]? = some (.cells xt 71 (0,0)))(xW:l.length<=cap)(hmx:cap<=maxLen)(ko:xt.size=cap*6)(pG:xt.toList.take (l.length*6)=l.flatMap Od.vs)(hB:B<=g) :
  Calls Tryz.prog 146 #[.slice (some (Y g 0)) (i+1+m) cap,H i,H ((i:Int)+1)] w fun e w'=>e=yn (.slice (some (Y g 0)) (i+m) cap)/\ORow w' B (.slice (some (Y g 0)) (i+m) cap) (l.take i++l.drop (i+1))/\w.grownBy w' (some g):=by
 obtain⟨i0,uo,ub,xX,uh⟩:=info_parts Tryz.infoOrder;have HG:=U F
 have HRC:Hid (∀j c,l[j]? = some c->w.drew.rangeAt g (0+j*6) c.vs):=by
  have D:ORow w B (.slice (some (Y g 0)) l.length cap) l:=⟨by rw[dT Od.len],.inr ⟨g,cap,xt,rfl,hB,F,xW,hmx,ko,pG⟩⟩;obtain⟨a',c',e,_,h⟩:=zZ D (by omega);intro j c hj;obtain⟨b',qw,e2,_,h⟩:=h (by intro h;rw[h] at hj;simp at hj);rw[e2] at e;simp only[Value.slice.injEq,Option.some.injEq,Addr.mk.injEq,and_true,true_and] at e;obtain⟨⟨rfl,rfl⟩,-⟩:=e;exact h j c hj
 have vJ:=U pG;have jD:=U ko;have HL:=U hl;have Z:(i:Int)+1<=(i:Int)+1+m:=by omega
 have Q:(i:Int)+1+m<=cap:=by omega
 have I:(0:Int)<=i:=by omega
 have h4:(i:Int)<=(i:Int)+1:=by omega
 have h5:(0:Int)<=(i:Int)+1:=by omega
 have h6:(i:Int)<=cap:=by omega
 have b1:((i:Int)==(i:Int)+1)=false:=by rw[xe];omega
 clear F pG ko hl;go_enter Tryz.func146,Tryz.ntmps146;go_wp2_with fail;refine ff 6 (by kernel_rfl) (by kernel_rfl) ?_;simp only[yU,List.take_zero,yV,List.drop_zero]
 by_cases hcc:cap=i+1
 ·have hm0:m=0:=by have:=O HL;omega
  subst hm0;subst hcc
  repeat still_step
  refine wpStill_nil ?_;refine lR rfl (.tmp 22) (.tmp 25) 29 rfl 71 i0 6 Tryz.underlying29 uo xX g i (i+1) xt (O HG) rfl (Y g 0) 0 0 ((l.drop (i+1)).flatMap Od.vs) rfl (by rw[dT Od.len,List.length_drop];congr 1;have:=O HL;omega) (by rw[xb (by have:=O HL;omega)];simp) (fQ _) (by omega) (by rw[dT Od.len,List.length_drop,O jD];have:=O HL;omega) ?_;have hdl:((l.drop (i+1)).flatMap Od.vs).length=0*6:=by rw[dT Od.len,List.length_drop];congr 1;have:=O HL;omega
  rw[hdl];obtain⟨ar,jJ⟩:=row_gone (zs:=zOdL) (O HL) xW (O jD) (O vJ) rfl;have pT:=U ar;generalize hC1:(xt.toList.take (i*6)++(l.drop (i+1)).flatMap Od.vs++xt.toList.drop (i*6+0*6))=C1 at pT jJ |-;have hx1:(w.drew.setRow g C1.toArray).heap[g]? = some (.cells C1.toArray 71 (0,0)):=setRow_heap w.drew g xt C1.toArray 71 (0,0) (O HG);have kQ:Hid (w.grownBy (w.drew.setRow g C1.toArray) (some g)):=⟨rfl,rfl,rfl,by simp,fun k E xE=>setRow_other w.drew g k C1.toArray (fun e=>xE (by rw[e]))⟩;have uI:=U hx1;clear hx1 hC1 ar hdl;generalize w.drew.setRow g C1.toArray=X1 at uI kQ |-
  have xo:∀(ty:TypeId) (c:Nat),(Builtin.clear_ #[29] ty #[.slice (some (Y g (i*6))) 1 c]).run Tryz.prog X1 = .ok (.tuple #[]) (X1.setRow g (C1.take (i*6)++zOdL++C1.drop (i*6+6)).toArray):=fun ty c=>by
   have:=clear_row X1 29 ty 71 i0 _ Tryz.underlying29 uo ub g (i*6) c C1.toArray (O uI) (by show i*6+6<=C1.toArray.size;rw[List.size_toArray,jJ];omega) (by simp[Value.cells,Value.oneCell']);simpa[Value.cells] using this
  have xR:=U (setRow_heap X1 g C1.toArray (C1.take (i*6)++zOdL++C1.drop (i*6+6)).toArray 71 (0,0) (O uI));have uf:Hid (w.grownBy (X1.setRow g (C1.take (i*6)++zOdL++C1.drop (i*6+6)).toArray) (some g)):=(O kQ).trans ⟨rfl,rfl,rfl,by simp,fun k E xE=>setRow_other X1 g k _ (fun e=>xE (by rw[e]))⟩;generalize hC2:(C1.take (i*6)++zOdL++C1.drop (i*6+6)).toArray=C2 at xo xR uf;have HC2:=U hC2;have kR:=U jJ;clear hC2;have k1:¬ i+1=i:=by omega
  have k2:i+1-i=1:=by omega
  clear jJ;go_wp2_with fail;go_ret;have pe:(l.take i++l.drop (i+1)).length=i+0:=by have:=O HL;simp;omega
  refine⟨rfl,⟨by rw[dT Od.len],.inr ⟨g,i+1,_,by rw[pe],hB,O xR,by rw[pe];omega,hmx,?_,?_⟩⟩,O uf⟩
  ·rw[<- O HC2];simp[O kR];omega
  ·rw[pe,<- O HC2];simpa using O pT
 ·repeat still_step
  refine wpStill_nil ?_;refine lR rfl (.tmp 22) (.tmp 25) 29 rfl 71 i0 6 Tryz.underlying29 uo xX g i cap xt (O HG) rfl (Y g ((i+1)*6)) m (cap-(i+1)) ((l.drop (i+1)).flatMap Od.vs) rfl (by rw[dT Od.len,List.length_drop];congr 1;have:=O HL;omega) (by have h:=ia (W:=w.drew) (g:=g) (off:=0) (l:=l) (O HRC) (i+1) l.length;rw[xa (by rw[List.length_drop];omega),Nat.zero_add] at h;exact h) (fQ _) (by omega) (by rw[dT Od.len,List.length_drop,O jD];have:=O HL;omega) ?_
  have hdl:((l.drop (i+1)).flatMap Od.vs).length=m*6:=by rw[dT Od.len,List.length_drop];congr 1;have:=O HL;omega
  rw[hdl];obtain⟨ar,jJ⟩:=row_gone (zs:=zOdL) (O HL) xW (O jD) (O vJ) rfl;have pT:=U ar;generalize hC1:(xt.toList.take (i*6)++(l.drop (i+1)).flatMap Od.vs++xt.toList.drop (i*6+m*6))=C1 at pT jJ |-;have hx1:(w.drew.setRow g C1.toArray).heap[g]? = some (.cells C1.toArray 71 (0,0)):=setRow_heap w.drew g xt C1.toArray 71 (0,0) (O HG);have kQ:Hid (w.grownBy (w.drew.setRow g C1.toArray) (some g)):=⟨rfl,rfl,rfl,by simp,fun k E xE=>setRow_other w.drew g k C1.toArray (fun e=>xE (by rw[e]))⟩;have uI:=U hx1;clear hx1 hC1 ar hdl;generalize w.drew.setRow g C1.toArray=X1 at uI kQ |-
  have xo:∀(ty:TypeId) (c:Nat),(Builtin.clear_ #[29] ty #[.slice (some (Y g ((i+m)*6))) 1 c]).run Tryz.prog X1 = .ok (.tuple #[]) (X1.setRow g (C1.take ((i+m)*6)++zOdL++C1.drop ((i+m)*6+6)).toArray):=fun ty c=>by
   have:=clear_row X1 29 ty 71 i0 _ Tryz.underlying29 uo ub g ((i+m)*6) c C1.toArray (O uI) (by show(i+m)*6+6<=C1.toArray.size;rw[List.size_toArray,jJ];omega) (by simp[Value.cells,Value.oneCell']);simpa[Value.cells] using this
  have xR:=U (setRow_heap X1 g C1.toArray (C1.take ((i+m)*6)++zOdL++C1.drop ((i+m)*6+6)).toArray 71 (0,0) (O uI));have uf:Hid (w.grownBy (X1.setRow g (C1.take ((i+m)*6)++zOdL++C1.drop ((i+m)*6+6)).toArray) (some g)):=(O kQ).trans ⟨rfl,rfl,rfl,by simp,fun k E xE=>setRow_other X1 g k _ (fun e=>xE (by rw[e]))⟩;generalize hC2:(C1.take ((i+m)*6)++zOdL++C1.drop ((i+m)*6+6)).toArray=C2 at xo xR uf;have HC2:=U hC2;have kR:=U jJ;clear hC2;have k1:¬ cap=i+m:=by have:=O HL;omega
  have k2:i+1+m-(i+m)=1:=by omega
  have k3:(i:Int)+m<=(i:Int)+1+m:=by omega
  have k4:(0:Int)<=(i:Int)+m:=by omega
  clear jJ;go_wp2_with fail;go_ret;have pe:(l.take i++l.drop (i+1)).length=i+m:=by have:=O HL;simp;omega
  refine⟨rfl,⟨by rw[dT Od.len],.inr ⟨g,cap,_,by rw[pe],hB,O xR,by rw[pe];omega,hmx,?_,?_⟩⟩,O uf⟩
  ·rw[<- O HC2];simp[O kR];omega
  ·rw[pe,<- O HC2];simpa using O pT
def db (l:List Od)(k:Nat)(c:Od)(qty:Int):List Od:=if c.left=qty then l.take k++l.drop (k+1) else l.set k { c with left:=c.left-qty }
structure TookAt (p o:Nat) (G:Option Nat) (w w':World):Prop where
 os:w'.os=w.os
 tape:w'.tape=w.tape
 output:w'.output=w.output
 size:w.heap.size<=w'.heap.size
 block:∀k,k<w.heap.size->k≠p->some k≠G->w'.heap[k]? = w.heap[k]?
 cell:∀j,j≠o+1->w'.cell? ⟨p,j,none⟩=w.cell? ⟨p,j,none⟩
 frozen:∀j,w'.frozen? ⟨p,j,none⟩=w.frozen? ⟨p,j,none⟩
 kind:∀cur t x,w.heap[p]? = some (.cells cur t x)->∃cur',w'.heap[p]? = some (.cells cur' t x)
theorem ez (w:World)(p o:Nat)(u:Value){xt:Array Value}{t:TypeId}{x:Nat × Nat}(h:w.heap[p]? = some (.cells xt t x)):∃cur',(w.setCell (Y p o) u).heap[p]? = some (.cells cur' t x):=by
 simp[World.setCell,Array.getElem?_modify,h]
theorem zX {W:World}{B e sz n:Nat}{v:Value}{xs:List Value}(h:W.ownsRow B e sz v n xs){b:Nat}(K:some b≠v.ownBlock)(o:Nat)(u:Value):(W.setCell (Y b o) u).ownsRow B e sz v n xs:=
 h.kept (row:=some b) ⟨rfl,rfl,rfl,by simp[World.setCell],fun k _ E=>yT _ _ _ _ (fun e=>E (by rw[e]))⟩ (.inr (Ne.symm K))
theorem gK {p o:Nat}{G:Option Nat}{w w':World}(h:w.grownBy w' G)(hp:p<w.heap.size)(xE:some p≠G):TookAt p o G w w':=
 ⟨h.os,h.tape,h.output,h.size,fun k E _ hG=>h.block k E hG,fun j _=>yR (a:=(Y p j)) (h.block p hp xE),fun j=>World.frozen?_of_block (a:=(Y p j)) (h.block p hp xE),fun xt t x hh=>⟨xt,(h.block p hp xE).trans hh⟩⟩
theorem gW {p o:Nat}{G:Option Nat}{w w1 w2:World}(Z:TookAt p o G w w1)(Q:TookAt p o G w1 w2):TookAt p o G w w2:=
 ⟨Q.os.trans Z.os,Q.tape.trans Z.tape,Q.output.trans Z.output,yO Z.size Q.size,fun k E hp hG=>(Q.block k (yK E Z.size) hp hG).trans (Z.block k E hp hG),fun j hj=>(Q.cell j hj).trans (Z.cell j hj),fun j=>(Q.frozen j).trans (Z.frozen j),fun xt t x hh=>by obtain⟨c1,I⟩:=Z.kind xt t x hh;exact Q.kind c1 t x I⟩
theorem took_set {p o:Nat}{G:Option Nat}(w:World)(u:Value):TookAt p o G w (w.setCell (Y p (o+1)) u):=
 ⟨rfl,rfl,rfl,by simp[World.setCell],fun k _ hp _=>yT _ _ _ _ hp,fun j hj=>yM _ _ _ _ (zV (fun e=>hj e.symm)),fun j=>World.frozen?_setCell _ _ _ _,fun xt t x hh=>ez w p (o+1) u hh⟩
theorem zn {W W':World}{B:Nat}{v:Value}{l:List Od}(h:ORow W B v l)(K:yp W W'):ORow W' B v l:=
 World.ownsRow.kept h (row:=none) (ft K yb) (by cases v.ownBlock <;> simp)
theorem oRow_left {W:World}{B g n cap k:Nat}{l:List Od}{c:Od}(h:ORow W B (.slice (some (Y g 0)) n cap) l)(hn:l.length=n)(E:l[k]? = some c)(x:Int) :
  ORow (W.setCell (Y g (k*6+3)) (H x)) B (.slice (some (Y g 0)) n cap) (l.set k { c with left:=x })/\W.grownBy (W.setCell (Y g (k*6+3)) (H x)) (some g):=by
 subst hn;have s:=World.ownsRow.stored h (k*6+3) (H x);refine⟨?_,s.2⟩;have e:=flat_set Od.len l k 3 c { c with left:=x } (H x) E (by omega) rfl;show World.ownsRow _ _ _ _ _ (l.set k _).length _;rw[List.length_set,<- e];exact s.1
theorem lu (p o B:Nat)(next id qty:Int)(vq:Value)(l:List Od)(k:Nat)(c:Od)(w:World)(c0:w.cell? (Y p o)=some (H next))(c1:w.cell? (Y p (o+1))=some vq)(f1:w.frozen? (Y p (o+1))=false)
  (D:ORow w B vq l) (hp:some p≠vq.ownBlock) (hpw:p<w.heap.size) (hB:B<=w.heap.size) (hn:l.length<=1000) (E:plc l id=k) (hc:l[k]? = some c) (aE:0<=qty) (aG:qty<=c.left) (xo:c.left<=1000000) :
  Calls Tryz.prog 124 #[h3 p o,H id,H qty] w fun e w'=>∃uB,e=yn (.tuple #[])/\w'.cell? (Y p (o+1))=some uB/\ORow w' B uB (db l k c qty)/\TookAt p o vq.ownBlock w w':=by
 have xE:l ≠ []:=by rintro rfl;simp at hc
 have bX:=(yH.1 hc).1;have HO:=U D;obtain⟨g,cap,rfl,xW,hBg,hgw⟩:=iG D xE;have HK:=U E;have HC:=U hc;clear D E hc xE;go_enter Tryz.func124,Tryz.ntmps124;go_wp2_with fail;refine(iW next _ l id w (zZ (O HO) (by omega))).mono ?_;rintro e w1 ⟨rfl,ud⟩;rw[O HK];have ui:=U ud;have kc:=U (zn (O HO) ud);have d1:w1.cell? (Y p (o+1))=some (.slice (some (Y g 0)) l.length cap):=(ud.cell (p:=(Y p (o+1))) hpw).trans c1;have e1:w1.frozen? (Y p (o+1))=false:=(ud.frozen (p:=(Y p (o+1))) hpw).trans f1;have hsz1:=ud.size;obtain⟨a',cp',ee,_,bS⟩:=zZ (O kc) (by omega);obtain⟨b',qw,e2,_,bS⟩:=bS (by intro h;rw[h] at bX;simp at bX);rw[e2] at ee;simp only[Value.slice.injEq,Option.some.injEq,Addr.mk.injEq,and_true,true_and] at ee;obtain⟨⟨rfl,rfl⟩,-⟩:=ee;have hcc:=bS k c (O HC);rw[Nat.zero_add] at hcc;obtain⟨-,-,-,y3,-⟩:=zL hcc;have fz:=World.ownsRow.frozenAt (O kc) (k*6+3);have hk':(k:Int)<l.length:=by omega
 have pP:(0:Int)<=k:=by omega
 have hwr:IntKind.i64.wrap (c.left-qty)=c.left-qty:=by rw[IntKind.wrap_i64];omega
 have hpg:p≠g:=by simpa[Value.ownBlock] using hp
 have HS:=U (oRow_left (O kc) rfl (O HC) (c.left-qty));have d2:(w1.setCell (Y g (k*6+3)) (H (c.left-qty))).cell? (Y p (o+1))=some (.slice (some (Y g 0)) l.length cap):=(yM _ _ _ _ (fun e=>hpg (by have:=congrArg Addr.block e;simpa using this.symm))).trans d1;have d3:(w1.setCell (Y g (k*6+3)) (H (c.left-qty))).cell? (Y g (k*6+3))=some (H (c.left-qty)):=yN _ _ _ y3;have d4:(w1.setCell (Y g (k*6+3)) (H (c.left-qty))).frozen? (Y p (o+1))=false:=(World.frozen?_setCell _ _ _ _).trans e1;clear ud hcc bS c0 c1 f1
 by_cases hz:c.left=qty
 ·have ub:c.left-qty=0:=by omega
  have HH:Hid (db l k c qty=l.take k++l.drop (k+1)):=if_pos hz;obtain⟨m,hm⟩:∃m,l.length=k+1+m:=⟨l.length-(k+1),by omega⟩;have pe:(l.set k { c with left:=c.left-qty }).length=k+1+m:=by rw[List.length_set,hm]
  have hdel:(l.set k { c with left:=c.left-qty }).take k++(l.set k { c with left:=c.left-qty }).drop (k+1)=l.take k++l.drop (k+1):=by
   rw[List.take_set_of_le yb,List.drop_set_of_lt (by omega)]
  have HDEL:=U hdel;have HM:=U hm;have xS:(c.left-qty==0)=true:=by rw[beq_iff_eq];exact ub
  obtain⟨-,Q|⟨g',jd,xt,Q,I,h4,h5,h6,h7,h8⟩⟩:=(O HS).1
  ·simp at Q
  simp only[Value.slice.injEq,Option.some.injEq,Addr.mk.injEq,and_true] at Q;obtain⟨rfl,h9,rfl⟩:=Q;have HDC:Hid (Calls Tryz.prog 146 #[.slice (some (Y g 0)) (k+1+m) cap,H k,H ((k:Int)+1)] (w1.setCell (Y g (k*6+3)) (H (c.left-qty))) _):=delete_any g k m cap B xt (l.set k { c with left:=c.left-qty }) _ pe (by rw[List.length_set];exact hn) h4 h5 h6 h7 h8 hBg;have uf:=U (O HS).2;have pH:p<(w1.setCell (Y g (k*6+3)) (H (c.left-qty))).heap.size:=by simp[World.setCell];omega
  clear hdel hz pe I h4 h5 h6 h7 h8 h9 xW ub;rw[hm] at d1 d2 hk' |-;clear hm;go_wp2_with fail;refine(O HDC).mono ?_;rw[O HDEL];rintro e w3 ⟨rfl,oK,ua⟩;have s1:=ua.cell d2 (by simpa using hpg);have s2:w3.frozen? (Y p (o+1))=false:=(World.frozen?_of_block (a:=(Y p (o+1))) (ua.block p pH (by simpa using hpg))).trans d4;have qO:=U oK;have uL:=U ua;clear oK ua;go_wp2_with fail;go_end0;refine⟨_,rfl,yN _ _ _ s1,?_,?_⟩
  ·rw[O HH];exact zX (O qO) (by simpa[Value.ownBlock] using hpg) (o+1) _
  ·exact gW (gW (gW (gK (ft (O ui) yb) hpw (by simpa[Value.ownBlock] using hpg)) (gK (O uf) (by omega) (by simpa[Value.ownBlock] using hpg))) (gK (O uL) pH (by simpa[Value.ownBlock] using hpg))) (took_set _ _)
 ·have ub:(c.left-qty==0)=false:=by rw[xe];omega
  have HH:Hid (db l k c qty=l.set k { c with left:=c.left-qty }):=if_neg hz;go_wp2_with fail;go_end0;refine⟨_,rfl,d2,by rw[O HH];exact(O HS).1,?_⟩;exact gW (gK (ft (O ui) yb) hpw (by simpa[Value.ownBlock] using hpg)) (gK (O HS).2 (by omega) (by simpa[Value.ownBlock] using hpg))
def trE (uH bN qty bO:Int):Ev:=⟨3,zCm,uH,bN,qty,bO,0⟩
abbrev ERow (W:World)(B:Nat)(v:Value)(l:List Ev):Prop:=W.ownsRow B 78 14 v l.length (l.flatMap Ev.vs)
theorem infoEv:(Tryz.prog.info? 78).map (fun i=>(i.zero,i.size,i.bytes))=some (some (.agg (yw 0 0 0 0 0 0 0 0 ⟨#[]⟩ 0 0 0 0 0).toArray),14,120):=by kernel_rfl
theorem one_ev (e:Ev):∀u∈e.vs,u.oneCell'=true:=by
 intro u hu;simp[Ev.vs] at hu;rcases hu with rfl|rfl|rfl|rfl|rfl|rfl|rfl|rfl|rfl|rfl|rfl|rfl|rfl|rfl <;> rfl
theorem zO {W W':World}{B:Nat}{v:Value}{l:List Ev}(h:ERow W B v l)(K:yp W W'):ERow W' B v l:=
 World.ownsRow.kept h (row:=none) (ft K yb) (by cases v.ownBlock <;> simp)
theorem gf {W:World}{B:Nat}{v:Value}{l:List Ev}(h:ERow W B v l){b:Nat}(K:b<B)(o:Nat)(u:Value):ERow (W.setCell (Y b o) u) B v l:=
 ownsRow_setCell_below h (a:=(Y b o)) K u
theorem row_sliceT {W:World}{B e sz n:Nat}{v:Value}{xs:List Value}(h:W.ownsRow B e sz v n xs)(hn:0<n):∃g c,v = .slice (some (Y g 0)) n c:=by
 rcases h.2 with⟨_,h0⟩|⟨g,cap,_,Z,_⟩
 ·omega
 ·exact⟨g,cap,Z⟩
theorem cellsT (W:World)(e:Ev)(t:TypeId):∀j u,e.vs[j]? = some u->(W.alloc (Obj.cells e.vs.toArray t)).cell? (((yr W 0):Addr).add j)=some u:=fun j u h=>cellsQ W e.vs t j u h
def DT (mb fb B:Nat)(W0:World)(vt:Value)(ts:List Ev)(uH bN qty bO:Int)(p q:Prop)(V:World):Nat->Value->Prop
 | 0,v=>v=h3 mb 0
 | 1,v=>v=h3 mb 0
 | 2,v=>v=h3 mb 0
 | 3,v=>v=h3 mb 8
 | 4,v=>v=vt
 | 5,v=>v=h3 mb 0
 | 6,v=>v=h3 mb 0
 | 7,v=>v=h3 mb 2
 | 8,v=>v=h3 mb 2
 | 9,v=>v=H uH
 | 10,v=>v=h3 fb 0
 | 11,v=>v=H bN
 | 12,v=>v=H qty
 | 13,v=>v=h3 fb 2
 | 14,v=>v=H bO
 | 15,v=>v=evV (trE uH bN qty bO)
 | 16,v=>∃s,v = .slice (some (Y s 0)) 1 1/\(¬ p->∀j u,(trE uH bN qty bO).vs[j]? = some u->V.cell? (((Y s 0):Addr).add j)=some u)
 | 17,v=>∃a c,v = .slice a (ts.length+1) c/\p/\(¬ q->ERow V B v (ts ++ [trE uH bN qty bO])/\W0.grownBy V vt.ownBlock)/\(q->V.cell? (Y mb 8)=some v/\ERow V B v (ts ++ [trE uH bN qty bO])/\TookAt mb 7 vt.ownBlock W0 V)
 | 18,v=>v=h3 mb 0
 | 19,v=>v=h3 mb 8
 | _,_=>True
section
variable {mb fb B:Nat} {W0 V V':World} {vt:Value} {ts:List Ev} {uH bN qty bO:Int} {p q:Prop}
theorem dt_alloc {o:Obj}(hp:¬ p):∀j v,DT mb fb B W0 vt ts uH bN qty bO p q V j v->DT mb fb B W0 vt ts uH bN qty bO p q (V.alloc o) j v:=by
 intro j v h
 match j with
 | 0|1|2|3|4|5|6|7|8|9|10|11|12|13|14|15|18|19=>exact h
 | 16 =>
  obtain⟨s,Z,Q⟩:=h;exact⟨s,Z,fun hp j u hu=>(yW _ _ _ (yL V _ (Q hp j u hu))).trans (Q hp j u hu)⟩
 | 17=>obtain⟨_,_,_,Q,_⟩:=h;exact absurd Q hp
 | j+20=>trivial
theorem dt_one:∀j v,j≠17->DT mb fb B W0 vt ts uH bN qty bO False False V j v->DT mb fb B W0 vt ts uH bN qty bO True False V' j v:=by
 intro j v hj h
 match j with
 | 0|1|2|3|4|5|6|7|8|9|10|11|12|13|14|15|18|19=>exact h
 | 16 =>
  obtain⟨s,Z,Q⟩:=h;exact⟨s,Z,fun hp=>absurd trivial hp⟩
 | 17=>exact absurd rfl hj
 | j+20=>trivial
theorem dt_two {v:Value}:∀j,j≠20->DT mb fb B W0 vt ts uH bN qty bO True False V j v->(j=17->DT mb fb B W0 vt ts uH bN qty bO True True V' 17 v)->DT mb fb B W0 vt ts uH bN qty bO True True V' j v:=by
 intro j hj h kz
 match j with
 | 0|1|2|3|4|5|6|7|8|9|10|11|12|13|14|15|18|19=>exact h
 | 16 =>
  obtain⟨s,Z,Q⟩:=h;exact⟨s,Z,fun hp=>absurd trivial hp⟩
 | 17=>exact kz rfl
 | j+20=>trivial
end
structure MatS (mb B:Nat) (W:World) (next:Int) (vq:Value) (l:List Od) (t:Od) (vt:Value) (ts:List Ev):Prop where
 cells:W.rangeAt mb 0 [.int .i64 next,vq,.int .i64 t.id,.int .i64 t.side,.int .i64 t.ticks,.int .i64 t.left,.int .i64 t.life,.string t.tag,vt]
 there:W.there mb 0 9
 orow:ORow W B vq l
 erow:ERow W B vt ts
 box:∃cur,W.heap[mb]? = some (.cells cur 277 (0,0))
 le:B<=W.heap.size
structure KeptBut (mb B:Nat) (w w':World):Prop where
 os:w'.os=w.os
 tape:w'.tape=w.tape
 output:w'.output=w.output
 size:w.heap.size<=w'.heap.size
 block:∀k,k<B->k≠mb->w'.heap[k]? = w.heap[k]?
theorem gV {mb B:Nat}{w w1 w2:World}(Z:KeptBut mb B w w1)(Q:KeptBut mb B w1 w2):KeptBut mb B w w2:=
 ⟨Q.os.trans Z.os,Q.tape.trans Z.tape,Q.output.trans Z.output,yO Z.size Q.size,fun k E hm=>(Q.block k E hm).trans (Z.block k E hm)⟩
theorem lB {mb B C:Nat}{w w1:World}(h:Below C w w1)(hC:B<=C):KeptBut mb B w w1:=
 ⟨h.os,h.tape,h.output,h.size,fun k E _=>h.block k (by omega)⟩
theorem kept_took {mb B o:Nat}{G:Option Nat}{w w1:World}(h:TookAt mb o G w w1)(hB:B<=w.heap.size)(hG:∀g,G=some g->B<=g):KeptBut mb B w w1:=
 ⟨h.os,h.tape,h.output,h.size,fun k E hm=>h.block k (by omega) hm (fun e=>by have:=hG k e.symm;omega)⟩
theorem kept_set {mb B:Nat}(w:World)(o:Nat)(u:Value):KeptBut mb B w (w.setCell (Y mb o) u):=
 ⟨rfl,rfl,rfl,by simp[World.setCell],fun k _ hm=>yT _ _ _ _ hm⟩
theorem kept_drew {mb B:Nat}{w w1:World}(h:KeptBut mb B w w1):KeptBut mb B w w1.drew:=⟨h.os,h.tape,h.output,h.size,h.block⟩
theorem row_took {p o B e sz n:Nat}{G:Option Nat}{v:Value}{xs:List Value}{w w':World}(h:w.ownsRow B e sz v n xs)(ht:TookAt p o G w w')(hp:some p≠v.ownBlock)(xE:v.ownBlock=none\/v.ownBlock≠G):w'.ownsRow B e sz v n xs:=by
 refine⟨h.1,?_⟩;rcases h.2 with hn|⟨g,cap,xt,rfl,K,pD,rest⟩
 ·exact .inl hn
 ·refine .inr ⟨g,cap,xt,rfl,K,?_,rest⟩;rw[ht.block g (yZ.1 pD).1 (by simpa[Value.ownBlock] using Ne.symm hp) (by simpa[Value.ownBlock] using xE)];exact pD
theorem zF {B e sz n b:Nat}{T:TypeId}{v:Value}{xs:List Value}{w:World}(h:w.ownsRow B e sz v n xs)(K:∃xt,w.heap[b]? = some (.cells xt T (0,0)))(xE:T≠e):some b≠v.ownBlock:=by
 obtain⟨cb,K⟩:=K;rcases h.2 with⟨rfl,_⟩|⟨g,cap,xt,rfl,_,pD,rest⟩
 ·simp[Value.ownBlock]
 ·intro e0;simp only[Value.ownBlock,Option.some.injEq] at e0;subst e0;rw[K] at pD;simp only[Option.some.injEq,Obj.cells.injEq] at pD;exact xE pD.2.1
theorem MatS.nq {mb B:Nat}{W:World}{next:Int}{vq:Value}{l:List Od}{t:Od}{vt:Value}{ts:List Ev}(h:MatS mb B W next vq l t vt ts):some mb≠vq.ownBlock:=zF h.orow h.box (by decide)
theorem MatS.nt {mb B:Nat}{W:World}{next:Int}{vq:Value}{l:List Od}{t:Od}{vt:Value}{ts:List Ev}(h:MatS mb B W next vq l t vt ts):some mb≠vt.ownBlock:=zF h.erow h.box (by decide)
theorem MatS.lt {mb B:Nat}{W:World}{next:Int}{vq:Value}{l:List Od}{t:Od}{vt:Value}{ts:List Ev}(h:MatS mb B W next vq l t vt ts):mb<W.heap.size:=by
 obtain⟨xt,h⟩:=h.box;exact(yZ.1 h).1
theorem fg {B B' e e' sz sz' n n':Nat}{v v':Value}{xs xs':List Value}{w:World}(h:w.ownsRow B e sz v n xs)(h':w.ownsRow B' e' sz' v' n' xs')(xE:e≠e'):v.ownBlock=none\/v.ownBlock≠v'.ownBlock:=by
 rcases h.2 with⟨rfl,_⟩|⟨g,cap,xt,rfl,K,pD,rest⟩
 ·exact .inl rfl
 ·refine .inr ?_;rcases h'.2 with⟨rfl,_⟩|⟨g',jd,cur',rfl,cO,hgg',rest'⟩
  ·simp[Value.ownBlock]
  ·intro e0;simp only[Value.ownBlock,Option.some.injEq] at e0;subst e0;rw[pD] at hgg';simp only[Option.some.injEq,Obj.cells.injEq] at hgg';exact xE hgg'.2.1
theorem trade_any (mb B:Nat)(next:Int)(vq:Value)(l:List Od)(t:Od)(vt:Value)(ts:List Ev)(o:Od)(k:Nat)(w:World)(h:MatS mb B w next vq l t vt ts)
  (E:plc l o.id=k) (hc:l[k]? = some o) (hn:l.length<=1000) (hts:ts.length<=1000) (ht0:0<=t.left) (ht1:t.left<=1000000) (ho0:0<=o.left) (oi:o.left<=1000000) (qty:Int) (hq:qty=min t.left o.left) :
  Calls Tryz.prog 213 #[h3 mb 0,.agg (yx o.id o.side o.ticks o.left o.life o.tag).toArray] w fun e w' =>
   ∃uB ow,e=yn (.tuple #[])/\MatS mb B w' next uB (db l k o qty) { t with left:=t.left-qty } ow (ts ++ [trE t.id o.id qty o.ticks])/\KeptBut mb B w w':=by
 obtain⟨vh,vC,xv,xM,vB,qN⟩:=o;simp only at *;have HM:=U h;have hmw:=h.lt;have kA:=h.le;have hnq:=h.nq;have hnt:=h.nt;have ui:Hid (yp w (w.alloc (me (yx vh vC xv xM vB qN).toArray 71))):=mc _ _;have km:=zf h.cells (O ui) hmw;have bT:=zm w (yx vh vC xv xM vB qN) 71;have y5:=km 5 _ rfl;have z3:=bT 3 _ rfl;simp only[Nat.zero_add] at y5 z3;have vO:=U km;have HF1:=U bT;have HK:=U E;have HC:=U hc;have HQ:=U hq;clear h km bT E hc hq;go_enter Tryz.func213,Tryz.ntmps213;go_wp2_with fail;have HF1:Hid (World.rangeAt (w.alloc (me (yx vh vC xv xM vB qN).toArray 71)) w.heap.size 0 (yx vh vC xv xM vB qN)):=O HF1;have z3:World.cell? (w.alloc (me (yx vh vC xv xM vB qN).toArray 71)) (yr w 3)=some (H xM):=z3;generalize (w.alloc (me (yx vh vC xv xM vB qN).toArray 71))=W1 at ui vO HF1 y5 z3 |-
 have hmin:∀W,(Builtin.min_ #[3,3] 3 #[H t.left,H xM]).run Tryz.prog W = .ok (H qty) W:=fun W=>by
  rw[O HQ]
  by_cases uJ:t.left<=xM
  ·rw[Int.min_eq_left uJ];go_simp;omega
  ·rw[Int.min_eq_right (by omega)];go_simp
 go_quiet (fail);go_wp2_with fail;have hB0:Hid (yp w (W1.drewN nq)):=zY (O ui) nq;have hM:Hid ((W1.drewN nq).rangeAt mb 0 [H next,vq,H t.id,H t.side,H t.ticks,H t.left,H t.life,yl t.tag,vt]):=O vO;have hFF:Hid ((W1.drewN nq).rangeAt w.heap.size 0 (yx vh vC xv xM vB qN)):=O HF1;have hT9:Hid ((W1.drewN nq).there mb 0 9):=zk (O HM).there (O hB0) hmw;have px:Hid (ERow (W1.drewN nq) B vt ts):=zO (O HM).erow (O hB0);have qx:Hid (∃xt,(W1.drewN nq).heap[mb]? = some (.cells xt 277 (0,0))):=by obtain⟨xt,hc⟩:=(O HM).box;exact⟨xt,((O hB0).block mb hmw).trans hc⟩
 have HORO:Hid (ORow (W1.drewN nq) B vq l):=zn (O HM).orow (O hB0);have xG:w.heap.size<(W1.drewN nq).heap.size:=yL (W1.drewN nq) (yr w (0+0)) (O hFF 0 _ rfl);clear y5 z3 hmin vO HF1 ui;generalize W1.drewN nq=W0 at hB0 hM hFF hT9 px HORO qx xG |-;have HM8:Hid (W0.cell? (Y mb 8)=some vt):=O hM 8 _ rfl;have kw:Hid (W0.cell? (Y mb 2)=some (H t.id)):=O hM 2 _ rfl;have HF0:Hid (W0.cell? (yr w 0)=some (H vh)):=O hFF 0 _ rfl;have HF2:Hid (W0.cell? (yr w 2)=some (H xv)):=O hFF 2 _ rfl;have HF8:Hid (W0.frozen? (Y mb 8)=false):=by have:=(O hT9 8 (by omega)).2;rwa[Nat.zero_add] at this
 have hmw0:mb<W0.heap.size:=by omega
 have hBW0:B<=W0.heap.size:=by omega
 obtain⟨i0,uo,ub,xX,uh⟩:=info_parts infoEv;refine zA (RT (fun V=>yp W0 V) (fun f=>{ tmps:=#[h3 mb 0,.agg (yx vh vC xv xM vB qN).toArray,M,yq w 0,H qty,h3 mb 0,h3 mb 0,h3 mb 2,h3 mb 5,H t.left,yq w 3,H xM,H qty,f 0,f 1,f 2,f 3,f 4,f 5,f 6,f 7,f 8,f 9,f 10,f 11,f 12,f 13,f 14,f 15,f 16,f 17,f 18,f 19,M,M,M,M,M,M,M,M,M,M,M,M,M,M,M,M,M],defers:=[] }) 17 20 (DT mb w.heap.size B W0 vt ts t.id vh qty xv)) (by kernel_rfl) ?_ ?_ ?_
 ·exact⟨fun _=>M,rfl,fun _=>⟨rfl,rfl,rfl,Nat.le_refl _,fun _ _=>rfl⟩,fun j hj=>by rw[yJ] at hj;split at hj <;> simp at hj⟩
 ·rintro x md V ⟨f,rfl,-,hD⟩ hx xY;have xq:=eM xY hx (acyc _ (by kernel_rfl));have k17:x[17]? = some true:=xq 17 (by simp);have k20:x[20]? = some true:=xq 20 (by simp);obtain⟨va,vc,-,-,-,qX⟩:=hD 17 k17;obtain⟨q1,q2,q3⟩:=qX k20;have pS:Hid (_/\_/\_):=⟨q1,q2,q3⟩;clear hD xq xY hx k17 k20 qX q1 q2 q3;dsimp only;generalize f 17=v17 at pS |-;generalize f 0=a0,f 1=a1,f 2=a2,f 3=a3,f 4=a4,f 5=a5,f 6=a6,f 7=a7,f 8=a8,f 9=a9,f 10=a10,f 11=a11,f 12=a12,f 13=a13,f 14=a14,f 15=a15,f 16=a16,f 18=a18,f 19=a19;obtain⟨q1,q2,q3⟩:=O pS;have hvtB:∀g,vt.ownBlock=some g->B<=g/\g<w.heap.size:=(O HM).erow.lt;have z0:V.cell? (yr w 0)=some (H vh):=(yR (a:=(yr w 0)) (q3.block w.heap.size xG (by omega) (fun e=>by have:=hvtB _ e.symm;omega))).trans (O HF0);have y5:V.cell? (Y mb 5)=some (H t.left):=(q3.cell 5 (by omega)).trans (O hM 5 _ rfl);have f5:V.frozen? (Y mb 5)=false:=(q3.frozen 5).trans (by have:=(O hT9 5 (by omega)).2;rwa[Nat.zero_add] at this);have hwr:IntKind.i64.wrap (t.left-qty)=t.left-qty:=by rw[IntKind.wrap_i64];have:=O HQ;omega
  have hbxV:∃xt,V.heap[mb]? = some (.cells xt 277 (0,0)):=by obtain⟨xt,hc⟩:=O qx;exact q3.kind _ _ _ hc
  have hn17:some mb≠v17.ownBlock:=zF q2 hbxV (by decide);have HBX2:Hid (∃xt,(V.setCell (Y mb 5) (H (t.left-qty))).drew.heap[mb]? = some (.cells xt 277 (0,0))):=by obtain⟨xt,hc⟩:=hbxV;exact ez V mb 5 _ hc
  have hms2:mb<(V.setCell (Y mb 5) (H (t.left-qty))).drew.heap.size:=by
   have:=q3.size;show mb<(V.setCell (Y mb 5) (H (t.left-qty))).heap.size;simp[World.setCell];omega
  have q4:ORow V B vq l:=row_took (O HORO) q3 hnq (fg (O HORO) (O px) (by decide));have Z0:(V.setCell (Y mb 5) (H (t.left-qty))).drew.cell? (yr w 0)=some (H vh):=(yM _ _ _ _ (fun e=>by have:=congrArg Addr.block e;simp at this;omega)).trans z0;have jt:Hid (ORow (V.setCell (Y mb 5) (H (t.left-qty))).drew B vq l):=zX q4 hnq 5 _;have pm:Hid (ERow (V.setCell (Y mb 5) (H (t.left-qty))).drew B v17 (ts ++ [trE t.id vh qty xv])):=zX q2 (zF q2 hbxV (by decide)) 5 _;have HC5:Hid ((V.setCell (Y mb 5) (H (t.left-qty))).drew.cell? (Y mb 5)=some (H (t.left-qty))):=yN _ _ _ y5;have vG:Hid (∀j,j≠5->(V.setCell (Y mb 5) (H (t.left-qty))).drew.cell? (Y mb j)=V.cell? (Y mb j)):=fun j hj=>yM _ _ _ _ (zV (fun e=>hj e.symm));have bp:Hid (∀j,(V.setCell (Y mb 5) (H (t.left-qty))).drew.frozen? (Y mb j)=V.frozen? (Y mb j)):=fun j=>World.frozen?_setCell _ _ _ _;have xw:Hid (KeptBut mb B w (V.setCell (Y mb 5) (H (t.left-qty))).drew):=kept_drew (gV (gV (lB (O hB0) (by omega)) (kept_took q3 (by omega) (fun g F=>(hvtB g F).1))) (kept_set V 5 _))
  have ug:B<=(V.setCell (Y mb 5) (H (t.left-qty))).drew.heap.size:=by
   have:=q3.size;show B<=(V.setCell (Y mb 5) (H (t.left-qty))).heap.size;simp[World.setCell];omega
  clear q2 q4 pS hbxV;have Q1:=U q1;have Q3:=U q3;clear q1 q3 z0;go_wp2_with fail;generalize pB:V.setCell (Y mb 5) (H (t.left-qty))=V2 at Z0 jt pm HC5 vG bp xw ug HBX2 hms2 |-;clear pB y5 f5 hwr;refine ff 6 (by kernel_rfl) (by kernel_rfl) ?_;simp only[yU,List.take_zero,yV,List.drop_zero]
  repeat still_step
  refine wpStill_nil ?_;go_wp2_with fail;refine(lu mb 0 B next vh qty vq l k ⟨vh,vC,xv,xM,vB,qN⟩ _ ((O vG 0 (by omega)).trans (((O Q3).cell 0 (by omega)).trans (O hM 0 _ rfl))) ((O vG 1 (by omega)).trans (((O Q3).cell 1 (by omega)).trans (O hM 1 _ rfl))) ((O bp 1).trans (((O Q3).frozen 1).trans (by have:=(O hT9 1 (by omega)).2;rwa[Nat.zero_add] at this))) (O jt) hnq hms2 ug hn (O HK) (O HC) (by have:=O HQ;omega) (by have:=O HQ;show qty<=xM;omega) oi).mono ?_;rintro e w9 ⟨uB,rfl,jX,ho9,cX⟩;have HC1:=U jX;have bC:=U ho9;have HT9:=U cX;clear jX ho9 cX;go_wp2_with fail;go_end0;have xp:∀j,j≠1->j≠5->j≠8->w9.cell? (Y mb j)=W0.cell? (Y mb j):=fun j Z h5 h8=>((O HT9).cell j (by omega)).trans ((O vG j h5).trans ((O Q3).cell j (by omega)))
  have uK:w9.rangeAt mb 0 [H next,uB,H t.id,H t.side,H t.ticks,H (t.left-qty),H t.life,yl t.tag,v17]:=by
   intro j u hj;rw[Nat.zero_add]
   match j,hj with
   | 0,hj=>cases hj;exact(xp 0 (by omega) (by omega) (by omega)).trans (O hM 0 _ rfl)
   | 1,hj=>cases hj;exact O HC1
   | 2,hj=>cases hj;exact(xp 2 (by omega) (by omega) (by omega)).trans (O hM 2 _ rfl)
   | 3,hj=>cases hj;exact(xp 3 (by omega) (by omega) (by omega)).trans (O hM 3 _ rfl)
   | 4,hj=>cases hj;exact(xp 4 (by omega) (by omega) (by omega)).trans (O hM 4 _ rfl)
   | 5,hj=>cases hj;exact((O HT9).cell 5 (by omega)).trans (O HC5)
   | 6,hj=>cases hj;exact(xp 6 (by omega) (by omega) (by omega)).trans (O hM 6 _ rfl)
   | 7,hj=>cases hj;exact(xp 7 (by omega) (by omega) (by omega)).trans (O hM 7 _ rfl)
   | 8,hj=>cases hj;exact((O HT9).cell 8 (by omega)).trans ((O vG 8 (by omega)).trans (O Q1))
   | j+9,hj=>simp at hj
  refine⟨uB,v17,rfl,⟨uK,fun j hj=>⟨?_,?_⟩,O bC,row_took (O pm) (O HT9) hn17 (fg (O pm) (O jt) (by decide)),by obtain⟨xt,hc⟩:=O HBX2;exact(O HT9).kind _ _ _ hc,yO ug (O HT9).size⟩,gV (O xw) (kept_took (O HT9) ug (fun g F=>((O jt).lt g F).1))⟩
  ·match j,hj with
   | 0,_=>exact Option.isSome_iff_exists.2 ⟨_,uK 0 _ rfl⟩
   | 1,_=>exact Option.isSome_iff_exists.2 ⟨_,uK 1 _ rfl⟩
   | 2,_=>exact Option.isSome_iff_exists.2 ⟨_,uK 2 _ rfl⟩
   | 3,_=>exact Option.isSome_iff_exists.2 ⟨_,uK 3 _ rfl⟩
   | 4,_=>exact Option.isSome_iff_exists.2 ⟨_,uK 4 _ rfl⟩
   | 5,_=>exact Option.isSome_iff_exists.2 ⟨_,uK 5 _ rfl⟩
   | 6,_=>exact Option.isSome_iff_exists.2 ⟨_,uK 6 _ rfl⟩
   | 7,_=>exact Option.isSome_iff_exists.2 ⟨_,uK 7 _ rfl⟩
   | 8,_=>exact Option.isSome_iff_exists.2 ⟨_,uK 8 _ rfl⟩
   | j+9,h=>omega
  ·have:=(O hT9 j hj).2;rw[Nat.zero_add] at this |-;exact((O HT9).frozen j).trans ((O bp j).trans (((O Q3).frozen j).trans this))
 ·rintro x md V i op ⟨f,rfl,aX,hD⟩ xo hx D xA X;have qh:=U aX;have HD:=U hD
  have oN:i<17->0<i->¬ x[17]? = some true:=fun xK jL kz=>by
   have h16:=yh xo 17 rfl kz 16 rfl;have h4:=yh xo 17 rfl kz 4 rfl;have jF:=yh xo 16 rfl h16 15 rfl;have h9:=yh xo 15 rfl jF 9 rfl;have jS:=yh xo 15 rfl jF 11 rfl;have qP:=yh xo 15 rfl jF 12 rfl;have bQ:=yh xo 15 rfl jF 14 rfl;have h8:=yh xo 9 rfl h9 8 rfl;have h7:=yh xo 8 rfl h8 7 rfl;have h6:=yh xo 7 rfl h7 6 rfl;have h5:=yh xo 6 rfl h6 5 rfl;have vj:=yh xo 11 rfl jS 10 rfl;have pM:=yh xo 14 rfl bQ 13 rfl;have I:=yh xo 4 rfl h4 3 rfl;have Q:=yh xo 3 rfl I 2 rfl;have Z:=yh xo 2 rfl Q 1 rfl
   have qW:∀j,0<j->j<17->x[j]? = some true:=fun j ax hj=>by
    rcases(by omega:j=1\/j=2\/j=3\/j=4\/j=5\/j=6\/j=7\/j=8\/j=9\/j=10\/j=11\/j=12\/j=13\/j=14\/j=15\/j=16) with rfl|rfl|rfl|rfl|rfl|rfl|rfl|rfl|rfl|rfl|rfl|rfl|rfl|rfl|rfl|rfl <;> assumption
   rw[qW i jL xK] at xA;cases xA
  have n20':i<20->¬ x[20]? = some true:=fun xK h20=>by
   have h19:=yh xo 20 rfl h20 19 rfl;have kz:=yh xo 20 rfl h20 17 rfl;have aT:=yh xo 19 rfl h19 18 rfl;have h16:=yh xo 17 rfl kz 16 rfl;have h4:=yh xo 17 rfl kz 4 rfl;have jF:=yh xo 16 rfl h16 15 rfl;have h9:=yh xo 15 rfl jF 9 rfl;have jS:=yh xo 15 rfl jF 11 rfl;have qP:=yh xo 15 rfl jF 12 rfl;have bQ:=yh xo 15 rfl jF 14 rfl;have h8:=yh xo 9 rfl h9 8 rfl;have h7:=yh xo 8 rfl h8 7 rfl;have h6:=yh xo 7 rfl h7 6 rfl;have h5:=yh xo 6 rfl h6 5 rfl;have vj:=yh xo 11 rfl jS 10 rfl;have pM:=yh xo 14 rfl bQ 13 rfl;have I:=yh xo 4 rfl h4 3 rfl;have Q:=yh xo 3 rfl I 2 rfl;have Z:=yh xo 2 rfl Q 1 rfl;have h0:=yh xo 18 rfl aT 0 rfl
   have qW:∀j,j<20->x[j]? = some true:=fun j hj=>by
    rcases(by omega:j=0\/j=1\/j=2\/j=3\/j=4\/j=5\/j=6\/j=7\/j=8\/j=9\/j=10\/j=11\/j=12\/j=13\/j=14\/j=15\/j=16\/j=17\/j=18\/j=19) with rfl|rfl|rfl|rfl|rfl|rfl|rfl|rfl|rfl|rfl|rfl|rfl|rfl|rfl|rfl|rfl|rfl|rfl|rfl|rfl <;> assumption
   rw[qW i xK] at xA;cases xA
  have xm:∀(b o:Nat) (u:Value),W0.cell? (Y b o)=some u->¬ x[17]? = some true->V.cell? (Y b o)=some u:=fun b o u hu hn17=>((aX hn17).cell (p:=(Y b o)) (yL W0 _ hu)).trans hu;clear aX xo
  match i,D with
  | 0,D|1,D|5,D =>
   cases D;clear X hD;go_simp;exact⟨upd f _ (h3 mb 0),by simp[upd],eu (O HD) (by decide) (by decide) (fun _ _ h=>h) (O qh) rfl⟩
  | 2,D =>
   cases D;have g:f 1=h3 mb 0:=hD 1 (yf X 1 rfl);clear X hD;go_simp;exact⟨upd f 2 (h3 mb 0),by simp[upd,g],eu (O HD) (by decide) (by decide) (fun _ _ h=>h) (O qh) rfl⟩
  | 3,D =>
   cases D;have g:f 2=h3 mb 0:=hD 2 (yf X 2 rfl);clear X hD;go_simp;exact⟨upd f 3 (h3 mb 8),by simp[upd,g],eu (O HD) (by decide) (by decide) (fun _ _ h=>h) (O qh) rfl⟩
  | 4,D =>
   cases D;have g:f 3=h3 mb 8:=hD 3 (yf X 3 rfl);have ka:=oN (by omega) (by omega);have y8:=xm mb 8 _ (O HM8) ka;clear X hD;go_simp;exact⟨upd f 4 (vt),by simp[upd,g],eu (O HD) (by decide) (by decide) (fun _ _ h=>h) (O qh) rfl⟩
  | 6,D =>
   cases D;have g:f 5=h3 mb 0:=hD 5 (yf X 5 rfl);clear X hD;go_simp;exact⟨upd f 6 (h3 mb 0),by simp[upd,g],eu (O HD) (by decide) (by decide) (fun _ _ h=>h) (O qh) rfl⟩
  | 7,D =>
   cases D;have g:f 6=h3 mb 0:=hD 6 (yf X 6 rfl);clear X hD;go_simp;exact⟨upd f 7 (h3 mb 2),by simp[upd,g],eu (O HD) (by decide) (by decide) (fun _ _ h=>h) (O qh) rfl⟩
  | 8,D =>
   cases D;have g:f 7=h3 mb 2:=hD 7 (yf X 7 rfl);clear X hD;go_simp;exact⟨upd f 8 (h3 mb 2),by simp[upd,g],eu (O HD) (by decide) (by decide) (fun _ _ h=>h) (O qh) rfl⟩
  | 9,D =>
   cases D;have g:f 8=h3 mb 2:=hD 8 (yf X 8 rfl);have ka:=oN (by omega) (by omega);have y2:=xm mb 2 _ (O kw) ka;clear X hD;go_simp;exact⟨upd f 9 (H t.id),by simp[upd,g],eu (O HD) (by decide) (by decide) (fun _ _ h=>h) (O qh) rfl⟩
  | 10,D =>
   cases D;clear X hD;go_simp;exact⟨upd f 10 (yq w 0),by simp[upd],eu (O HD) (by decide) (by decide) (fun _ _ h=>h) (O qh) rfl⟩
  | 11,D =>
   cases D;have g:f 10=yq w 0:=hD 10 (yf X 10 rfl);have ka:=oN (by omega) (by omega);have z0:=xm w.heap.size 0 _ (O HF0) ka;clear X hD;go_simp;exact⟨upd f 11 (H vh),by simp[upd,g],eu (O HD) (by decide) (by decide) (fun _ _ h=>h) (O qh) rfl⟩
  | 12,D =>
   cases D;clear X hD;go_simp;exact⟨upd f 12 (H qty),by simp[upd],eu (O HD) (by decide) (by decide) (fun _ _ h=>h) (O qh) rfl⟩
  | 13,D =>
   cases D;clear X hD;go_simp;exact⟨upd f 13 (yq w 2),by simp[upd],eu (O HD) (by decide) (by decide) (fun _ _ h=>h) (O qh) rfl⟩
  | 14,D =>
   cases D;have g:f 13=yq w 2:=hD 13 (yf X 13 rfl);have ka:=oN (by omega) (by omega);have z2:=xm w.heap.size 2 _ (O HF2) ka;clear X hD;go_simp;exact⟨upd f 14 (H xv),by simp[upd,g],eu (O HD) (by decide) (by decide) (fun _ _ h=>h) (O qh) rfl⟩
  | 15,D =>
   cases D;have g9:f 9=H t.id:=hD 9 (yf X 9 rfl);have jR:f 11=H vh:=hD 11 (yf X 11 rfl);have ql:f 12=H qty:=hD 12 (yf X 12 rfl);have bP:f 14=H xv:=hD 14 (yf X 14 rfl);clear X hD;go_simp;exact⟨upd f 15 (evV (trE t.id vh qty xv)),by simp[upd,g9,jR,ql,bP,evV,trE,zCm],eu (O HD) (by decide) (by decide) (fun _ _ h=>h) (O qh) rfl⟩
  | 16,D =>
   cases D;have g:f 15=evV (trE t.id vh qty xv):=hD 15 (yf X 15 rfl);have ka:=oN (by omega) (by omega);have vH:=O qh ka;clear X hD;unfold evV trE at g;go_simp;refine⟨upd f 16 (.slice (some (yr V 0)) 1 1),by simp[upd,g],eu (O HD) (by decide) (by decide) (dt_alloc ka) (fun _=>vH.alloc vH.size _) ⟨V.heap.size,rfl,fun _=>?_⟩⟩;exact cellsT V (trE t.id vh qty xv) 78
  | 17,D =>
   cases D;have g4:f 4=vt:=hD 4 (yf X 4 rfl);obtain⟨s,g16,oZ⟩:=hD 16 (yf X 16 rfl);have ka:¬ x[17]? = some true:=by rw[xA];simp
   have n20:=n20' (by omega);have vH:=O qh ka;have xN:ERow V B vt ts:=zO (O px) vH;rw[if_pos (by rfl)];refine wp_append_own V (.tmp 17) (.tmp 29) 32 rfl B 78 i0 _ 14 120 Tryz.underlying32 uo ub xX uh rfl (by decide) vt ts.length (ts.flatMap Ev.vs) g4 xN (Y s 0) 1 1 (trE t.id vh qty xv).vs g16 rfl (oZ ka) (one_ev _) (by unfold maxLen;omega) (by omega) (by have:=vH.size;omega) ?_;intro v' w' xu uN _;obtain⟨ga,gc,rfl⟩:=row_sliceT xu (by omega);refine⟨upd f 17 (.slice (some (Y ga 0)) (ts.length+1) gc),rfl,rt_one (by decide) (O HD) xA n20 (fun j v hj h=>dt_one j v hj h) ⟨some (Y ga 0),gc,rfl,trivial,fun _=>⟨?_,?_⟩,fun h=>h.elim⟩⟩
   ·show World.ownsRow _ _ _ _ _ (ts ++ [trE t.id vh qty xv]).length _;rw[yQ,List.flatMap_append];simpa using xu
   ·exact(ft vH yb).trans uN
  | 18,D =>
   cases D;have g:f 0=h3 mb 0:=hD 0 (yf X 0 rfl);clear X hD;go_simp;exact⟨upd f 18 (h3 mb 0),by simp[upd,g],eu (O HD) (by decide) (by decide) (fun _ _ h=>h) (O qh) rfl⟩
  | 19,D =>
   cases D;have g:f 18=h3 mb 0:=hD 18 (yf X 18 rfl);clear X hD;go_simp;exact⟨upd f 19 (h3 mb 8),by simp[upd,g],eu (O HD) (by decide) (by decide) (fun _ _ h=>h) (O qh) rfl⟩
  | 20,D =>
   cases D;have g19:f 19=h3 mb 8:=hD 19 (yf X 19 rfl);have k17:x[17]? = some true:=X ⟨17,.data⟩ (by simp) rfl;have n20:¬ x[20]? = some true:=by rw[xA];simp
   obtain⟨ga,gc,g17,-,hfa,-⟩:=hD 17 k17;obtain⟨her,uN⟩:=hfa n20;have hmbV:some mb≠vt.ownBlock:=hnt;have y8:=uN.cell (O HM8) hmbV;have f8:V.frozen? (Y mb 8)=false:=(World.frozen?_of_block (a:=(Y mb 8)) (uN.block mb (by omega) hmbV)).trans (O HF8);have cF:=U (g17 ▸ her);have HBXV:Hid (∃xt,V.heap[mb]? = some (.cells xt 277 (0,0))):=by obtain⟨xt,hc⟩:=O qx;exact⟨xt,(uN.block mb (by omega) hmbV).trans hc⟩
   have vu:=U uN;clear X hD her uN hfa;go_simp;refine⟨upd f 20 M,by simp[upd,g19,g17],rt_two (by decide) (O HD) k17 xA (fun j hj hxj h=>dt_two j hj h (fun hj17=>?_)) trivial⟩;subst hj17;obtain⟨-,-,-,-,-,-⟩:=h;refine⟨ga,gc,g17,trivial,fun h=>absurd trivial h,fun _=>?_⟩;rw[g17];refine⟨yN _ _ _ y8,zX (O cF) (zF (O cF) (O HBXV) (by decide)) 8 _,?_⟩;exact gW (gK (O vu) (by omega) hmbV) (took_set (o:=7) _ _)
  | i+21,D=>simp at D
theorem one_od (o:Od):∀u∈o.vs,u.oneCell'=true:=by
 intro u hu;simp[Od.vs] at hu;rcases hu with rfl|rfl|rfl|rfl|rfl|rfl <;> rfl
section
variable {mb B:Nat} {W0 V V':World} {vq:Value} {l:List Od} {t:Od} {p q:Prop}
end
theorem matS_took {mb B:Nat}{W w':World}{next:Int}{vq uB:Value}{l l':List Od}{t:Od}{vt:Value}{ts:List Ev}(h:MatS mb B W next vq l t vt ts)(ht:TookAt mb 0 vq.ownBlock W w')(hc:w'.cell? (Y mb 1)=some uB)(D:ORow w' B uB l'):MatS mb B w' next uB l' t vt ts:=by
 have xp:∀j,j≠1->w'.cell? (Y mb j)=W.cell? (Y mb j):=fun j Z=>ht.cell j (by omega);refine⟨?_,fun j hj=>⟨?_,?_⟩,D,row_took h.erow ht h.nt (fg h.erow h.orow (by decide)),by obtain⟨xt,hc⟩:=h.box;exact ht.kind _ _ _ hc,yO h.le ht.size⟩
 ·intro j u hj
  by_cases Z:j=1
  ·subst Z;cases hj;exact hc
  ·rw[Nat.zero_add,xp j Z]
   have:W.cell? (Y mb (0+j))=some u:=h.cells j u (by
    rcases j with _ | _ | j
    ·exact hj
    ·exact absurd rfl Z
    ·exact hj)
   rwa[Nat.zero_add] at this
 ·by_cases Z:j=1
  ·subst Z;rw[Nat.zero_add,hc];rfl
  ·rw[Nat.zero_add,xp j Z];have:=(h.there j hj).1;rwa[Nat.zero_add] at this
 ·rw[Nat.zero_add,ht.frozen];have:=(h.there j hj).2;rwa[Nat.zero_add] at this
theorem cells_of_mk (w:World)(cs:List Value)(t:TypeId)(j:Nat)(u:Value)(h:cs[j]? = some u):((w.alloc (Obj.cells cs.toArray t)).drew).cell? (((yr w 0):Addr).add j)=some u:=
 World.news_of_block (heap_alloc_new w (Obj.cells cs.toArray t)) j u (by simpa using h)
theorem rest_any (mb B:Nat)(next:Int)(vq:Value)(l:List Od)(t:Od)(vt:Value)(ts:List Ev)(w:World)(h:MatS mb B w next vq l t vt ts)(hn:l.length<=1000) :
  Calls Tryz.prog 204 #[h3 mb 0] w fun e w'=>∃uB,e=yn (.tuple #[])/\MatS mb B w' next uB (l ++ [t]) t vt ts/\KeptBut mb B w w':=by
 have HM:=U h;have hmw:=h.lt;have kA:=h.le;have hnq:=h.nq;have qx:=U h.box;have HORO:=U h.orow;have hM:=U h.cells;have HM1:Hid (w.cell? (Y mb 1)=some vq):=O hM 1 _ rfl;have HF1:Hid (w.frozen? (Y mb 1)=false):=by have:=(h.there 1 (by omega)).2;rwa[Nat.zero_add] at this
 clear h;obtain⟨i0,uo,ub,xX,uh⟩:=info_parts Tryz.infoOrder;go_enter Tryz.func204,Tryz.ntmps204;go_wp2_with fail;have hj1:=O HM1;have bT:=O HF1;have k2:=O hM 2 _ rfl;have k3:=O hM 3 _ rfl;have k4:=O hM 4 _ rfl;have k5:=O hM 5 _ rfl;have k6:=O hM 6 _ rfl;have k7:=O hM 7 _ rfl;rw[Nat.zero_add] at k2 k3 k4 k5 k6 k7
 go_region_law ((refine step_append_lies _ (by rfl) _ _ _ (by rfl) B 71 i0 _ 6 56 Tryz.underlying29 uo ub xX uh rfl (by decide) _ l.length (l.flatMap Od.vs) (by rfl) (zn (O HORO) ((Below.refl w.heap.size w).alloc yb _).drew) (yr w 0) 1 1 t.vs (by rfl) rfl (cells_of_mk w t.vs _) (one_od t) (by decide) (by unfold maxLen;omega) (by omega) (by show B<=(w.alloc _).heap.size;rw[zi];omega) (w.heap.size+1) (by simp) ?_;intro gq cq w5 vA vR hat5 hlt5;have y1:=(vR.cell_far (Y mb 1) (by show mb<(w.alloc _).heap.size;rw[zi];omega) hnq).trans ((((Below.refl w.heap.size w).alloc yb _).drew.cell (p:=(Y mb 1)) (by show mb < _;omega)).trans hj1);have r1:=(vR.frozen_far (Y mb 1) (by show mb<(w.alloc _).heap.size;rw[zi];omega) hnq).trans ((World.frozen?_of_block (a:=(Y mb 1)) (((Below.refl w.heap.size w).alloc yb _).drew.block mb (by omega))).trans bT)))
 all_goals
  have kC:yp w ((w.alloc (Obj.cells t.vs.toArray 71)).drew):=((Below.refl w.heap.size w).alloc yb _).drew;have uN:w.grownBy w5 vq.ownBlock:=zr (ft kC yb) vR;have pG:TookAt mb 0 vq.ownBlock w (w5.setCell (Y mb 1) (.slice (some (Y gq 0)) (l.length+1) cq)):=gW (gK uN (by omega) hnq) (took_set (o:=0) _ _);have vL:∃xt,w5.heap[mb]? = some (.cells xt 277 (0,0)):=by obtain⟨xt,hc⟩:=O qx;exact⟨xt,(uN.block mb (by omega) hnq).trans hc⟩
  have hrw:ORow w5 B (.slice (some (Y gq 0)) (l.length+1) cq) (l ++ [t]):=by show World.ownsRow _ _ _ _ _ _ _;rw[yQ,List.flatMap_append];simpa using vA
  go_end0;exact⟨_,rfl,matS_took (O HM) pG (yN _ _ _ y1) (zX hrw (zF hrw vL (by decide)) 1 _),kept_took pG kA (fun g F=>((O HORO).lt g F).1)⟩
def eA (l:List Od):Bool:=if 20<l.length then true else decide (8<((dS true 1 (zC l 1)).length:Int)+(dS false 2 (zC l 2)).length)
def DF (mb:Nat)(BV:Value)(q1 q2:List Od)(N:Int)(p:Prop)(W:World):Nat->Value->Prop
 | 0,v=>v=h3 mb 0
 | 1,v=>v=h3 mb 0
 | 2,v=>v=h3 mb 0
 | 3,v=>v=BV
 | 4,v=>∃b,v=fj b/\Tb W b q1
 | 5,v=>v=h3 mb 0
 | 6,v=>v=h3 mb 0
 | 7,v=>v=h3 mb 0
 | 8,v=>v=BV
 | 9,v=>∃b,v=fm b/\Ts W b q2
 | 10,v=>v=H N
 | 11,v=>v = .bool (decide (8<N))
 | 12,v=>v = .bool (decide (8<N))
 | _,_=>True
theorem df_mono {mb:Nat}{BV:Value}{q1 q2:List Od}{N:Int}:∀p W W' j v,yp W W'->DF mb BV q1 q2 N p W j v->DF mb BV q1 q2 N p W' j v:=by
 intro p W W' j v K h
 match j with
 | 0|1|2|3|5|6|7|8|10|11|12=>exact h
 | 4=>obtain⟨b,Z,Q⟩:=h;exact⟨b,Z,zI Q (K.block _ (ed Q))⟩
 | 9=>obtain⟨b,Z,Q⟩:=h;exact⟨b,Z,zI Q (K.block _ (ed Q))⟩
 | n+13=>trivial
theorem isTooFull_any (mb B:Nat)(next:Int)(vq:Value)(l:List Od)(t:Od)(vt:Value)(ts:List Ev)(w:World)(h:MatS mb B w next vq l t vt ts)(hm:l.length<=1000)(hl:∀o'∈l,0<=o'.left/\o'.left<=1000000) :
  Calls Tryz.prog 205 #[h3 mb 0] w fun e w'=>e=yn (.bool (eA l))/\yp w w':=by
 have hmw:=h.lt;have kA:=h.le;have HR:=U (zZ h.orow (by omega));obtain⟨a,cap,rfl,_,_⟩:=zZ h.orow (by omega);have HM:=U h.cells;have z0:w.cell? (Y mb 0)=some (H next):=h.cells 0 _ rfl;have z1:w.cell? (Y mb 1)=some (.slice a l.length cap):=h.cells 1 _ rfl;have aP:=U hl;clear h hl;go_enter Tryz.func205,Tryz.ntmps205
 by_cases h20:20<l.length
 ·have h20':(20:Int)<l.length:=by omega
  have HF:Hid (eA l=true):=if_pos h20;clear h20;go_wp2_with fail;go_ret;exact⟨zB (O HF).symm,Below.refl _ _⟩
 have h20':¬ (20:Int)<l.length:=by omega
 have hn:l.length<=20:=by omega
 have n1:(zC l 1).length<=20:=yO (List.length_filter_le _ _) hn;have n2:(zC l 2).length<=20:=yO (List.length_filter_le _ _) hn;generalize hN:((dS true 1 (zC l 1)).length:Int)+(dS false 2 (zC l 2)).length=N;have HF:Hid (eA l=decide (8<N)):=by show _ = _;rw[eA,if_neg h20,hN]
 have HNN:=U hN;clear hN h20;go_wp2_with fail;clear z0 z1;refine zA (RG w (fun f=>{ tmps:=#[h3 mb 0,M,f 12,h3 mb 0,h3 mb 0,h3 mb 0,h3 mb 1,.slice a l.length cap,H l.length,.bool false,f 0,f 1,f 2,f 3,f 4,f 5,f 6,f 7,f 8,f 9,f 10,f 11],defers:=[] }) 99 (DF mb (.agg #[H next,.slice a l.length cap]) (zC l 1) (zC l 2) N)) (by kernel_rfl) ?_ ?_ ?_
 ·exact⟨fun j=>if j=12 then .bool false else M,rfl,⟨rfl,rfl,rfl,Nat.le_refl _,fun _ _=>rfl⟩,fun j hj=>by rw[yJ] at hj;split at hj <;> simp at hj⟩
 ·rintro x md V ⟨f,rfl,xl,hD⟩ hx xY;have xq:=eM xY hx (acyc _ (by kernel_rfl));have qq:f 12 = .bool (decide (8<N)):=hD 12 (xq 12 (by simp));have xI:=U xl;simp only[qq];clear hD xq qq xY hx xl;go_wp2_with fail;go_ret;exact⟨zB (O HF).symm,O xI⟩
 ·rintro x md V i o ⟨f,rfl,xl,hD⟩ xo hx D xA X;clear xo;have xI:=U xl;have HD:=U hD;have z0:=zf (O HM) xl hmw 0 _ rfl;have z1:=zf (O HM) xl hmw 1 _ rfl;rw[Nat.zero_add] at z0 z1;have qj:=U (zq (O HR) xl yb)
  match i,D with
  | 0,D|5,D =>
   cases D;clear X hD xl;go_simp;exact⟨upd f _ (h3 mb 0),by simp[upd],zx (O xI) (O HD) (by decide) rfl⟩
  | 1,D =>
   cases D;have g:f 0=h3 mb 0:=hD 0 (yf X 0 rfl);clear X hD xl;go_simp;exact⟨upd f 1 (h3 mb 0),by simp[upd,g],zx (O xI) (O HD) (by decide) rfl⟩
  | 2,D =>
   cases D;have g:f 1=h3 mb 0:=hD 1 (yf X 1 rfl);clear X hD xl;go_simp;exact⟨upd f 2 (h3 mb 0),by simp[upd,g],zx (O xI) (O HD) (by decide) rfl⟩
  | 3,D =>
   cases D;have g:f 2=h3 mb 0:=hD 2 (yf X 2 rfl);clear X hD xl;go_simp;exact⟨upd f 3 (.agg #[H next,.slice a l.length cap]),by simp[upd,g],zx (O xI) (O HD) (by decide) rfl⟩
  | 4,D =>
   cases D;have g:f 3 = .agg #[H next,.slice a l.length cap]:=hD 3 (yf X 3 rfl);clear X hD xl;go_simp;refine(lE next _ l V (O qj) hn (O aP)).mono ?_;rintro e w4 ⟨b,rfl,ht,uJ,xF⟩;exact⟨upd f 4 (fj b),by simp[upd,g],rg_grow df_mono (O xI) (O HD) xF (by decide) ⟨b,rfl,ht⟩⟩
  | 6,D =>
   cases D;have g:f 5=h3 mb 0:=hD 5 (yf X 5 rfl);clear X hD xl;go_simp;exact⟨upd f 6 (h3 mb 0),by simp[upd,g],zx (O xI) (O HD) (by decide) rfl⟩
  | 7,D =>
   cases D;have g:f 6=h3 mb 0:=hD 6 (yf X 6 rfl);clear X hD xl;go_simp;exact⟨upd f 7 (h3 mb 0),by simp[upd,g],zx (O xI) (O HD) (by decide) rfl⟩
  | 8,D =>
   cases D;have g:f 7=h3 mb 0:=hD 7 (yf X 7 rfl);clear X hD xl;go_simp;exact⟨upd f 8 (.agg #[H next,.slice a l.length cap]),by simp[upd,g],zx (O xI) (O HD) (by decide) rfl⟩
  | 9,D =>
   cases D;have g:f 8 = .agg #[H next,.slice a l.length cap]:=hD 8 (yf X 8 rfl);clear X hD xl;go_simp;refine(ly next 2 (by omega) _ l V (O qj) hn (O aP)).mono ?_;rintro e w4 ⟨b,rfl,ht,uJ,xF⟩;exact⟨upd f 9 (fm b),by simp[upd,g],rg_grow df_mono (O xI) (O HD) xF (by decide) ⟨b,rfl,ht⟩⟩
  | 10,D =>
   cases D;obtain⟨b1,g4,t4⟩:=hD 4 (yf X 4 rfl);obtain⟨b2,g9,t9⟩:=hD 9 (yf X 9 rfl);have HT4:=U t4;have HT9:=U t9;clear X hD xl t4 t9;go_simp;refine(lU b1 b2 1 2 (zC l 1) (zC l 2) V (O HT4) (O HT9) n1 n2).mono ?_;rw[O HNN];rintro e w4 ⟨rfl,xF⟩;exact⟨upd f 10 (H N),by simp[upd,g4,g9],rg_grow df_mono (O xI) (O HD) xF (by decide) rfl⟩
  | 11,D =>
   cases D;have g:f 10=H N:=hD 10 (yf X 10 rfl);clear X hD xl;go_simp;exact⟨upd f 11 (.bool (decide (8<N))),by simp[upd,g],zx (O xI) (O HD) (by decide) rfl⟩
  | 12,D =>
   cases D;have g:f 11 = .bool (decide (8<N)):=hD 11 (yf X 11 rfl);clear X hD xl;go_simp;exact⟨upd f 12 (.bool (decide (8<N))),by simp[upd,g],zx (O xI) (O HD) (by decide) rfl⟩
  | n+13,D=>simp at D
def dv (l:List Od)(sd:Int):Option Od:=(quOf (decide (sd=1)) (zC l sd)).head?
def matL (c:Cm)(id:Int):Nat->List Od->Int->List Ev->List Od × Int × List Ev
 | 0,l,left,ts=>(l,left,ts)
 | n+1,l,left,ts =>
  if 0<left then
   match dv l (othS c.s) with
   | none=>(l,left,ts)
   | some o=>if dL c o=true then matL c id n (db l (plc l o.id).toNat o (min left o.left)) (left-min left o.left) (ts ++ [trE id o.id (min left o.left) o.ticks]) else(l,left,ts)
  else(l,left,ts)
structure GoodL (l:List Od):Prop where
 len:l.length<=20
 left:∀o∈l,0<o.left/\o.left<=1000000
 rise:dQ l
theorem fL {l:List Od}{sd:Int}{o:Od}(h:dv l sd=some o):o∈l/\o.side=sd:=by
 have Z:o∈quOf (decide (sd=1)) (zC l sd):=List.mem_of_head? h;obtain⟨k,_,Q⟩:=List.mem_flatMap.1 Z;have I:=(List.mem_filter.1 Q).1;have h4:=List.mem_filter.1 I;exact⟨h4.1,by simpa using h4.2⟩
theorem rise_id {l:List Od}(hr:dQ l){i k:Nat}{o o':Od}(hi:l[i]? = some o')(E:l[k]? = some o)(he:o'.id=o.id):i=k:=by
 obtain⟨Z,rfl⟩:=yH.1 hi;obtain⟨Q,rfl⟩:=yH.1 E;rcases Nat.lt_trichotomy i k with h|h|h
 ·have:=List.pairwise_iff_getElem.1 hr i k Z Q h;omega
 ·exact h
 ·have:=List.pairwise_iff_getElem.1 hr k i Q Z h;omega
theorem fd {l:List Od}(hr:dQ l){k:Nat}{o:Od}(E:l[k]? = some o):plc l o.id=k:=by
 rcases plcF_spec o.id l 0 with⟨_,Q⟩|⟨i,o',Z,Q,I,_⟩
 ·exact absurd rfl (Q o (yP E))
 ·rw[plc,Z,rise_id hr Q E I];congr 1;omega
theorem eT {l:List Od}(h:GoodL l){k:Nat}{o:Od}(E:l[k]? = some o){qty:Int}(h0:0<=qty)(Z:qty<=o.left):GoodL (db l k o qty)/\((db l k o qty).length+1=l.length\/(qty<o.left/\(db l k o qty).length=l.length)):=by
 have bX:=(yH.1 E).1
 by_cases he:o.left=qty
 ·have e:db l k o qty=l.take k++l.drop (k+1):=if_pos he;rw[e]
  have hs:(l.take k++l.drop (k+1)).Sublist l:=by
   have:(l.take k++l.drop (k+1)).Sublist (l.take k++l.drop k):=List.Sublist.append (List.Sublist.refl _) (by rw[drop_get E];exact List.sublist_cons_self _ _);rwa[List.take_append_drop] at this
  refine⟨⟨yO hs.length_le h.len,fun o' qe=>h.left o' (hs.subset qe),h.rise.sublist hs⟩,.inl ?_⟩;simp;omega
 ·have e:db l k o qty=l.set k { o with left:=o.left-qty }:=if_neg he;rw[e];have D:=h.left o (yP E);refine⟨⟨by rw[List.length_set];exact h.len,fun o' qe=>?_,?_⟩,.inr ⟨by omega,by rw[List.length_set]⟩⟩
  ·rcases List.mem_or_eq_of_mem_set qe with Q|rfl
   ·exact h.left o' Q
   ·simp only;omega
  ·refine List.pairwise_iff_getElem.2 fun i j hi hj pd=>?_;rw[List.length_set] at hi hj;have hp:=List.pairwise_iff_getElem.1 h.rise i j hi hj pd;have hko:l[k]=o:=by have:=(yH.1 E).2;exact this
   rw[List.getElem_set,List.getElem_set];split <;> split
   ·omega
   ·next Q _=>subst Q;rw[hko] at hp;exact hp
   ·next _ Q=>subst Q;rw[hko] at hp;exact hp
   ·exact hp
structure MI (c:Cm) (id:Int) (hg:List Od × Int × List Ev) (l:List Od) (left:Int) (ts:List Ev):Prop where
 good:GoodL l
 l0:0<=left
 l1:left<=1000000
 few:ts.length<=21
 some:0<left->ts.length+l.length<=20
 goal:∃n,matL c id n l left ts=hg/\(0<left->l.length<n)
theorem matL_end {c:Cm}{id:Int}{n:Nat}{l:List Od}{left:Int}{ts:List Ev}(h:left<=0):matL c id n l left ts=(l,left,ts):=by
 cases n with
 | zero=>rfl
 | succ n=>rw[matL,if_neg (by omega)]
theorem mi_start {c:Cm}{id:Int}{l:List Od}{left:Int}(h:GoodL l)(h0:0<=left)(Z:left<=1000000):MI c id (matL c id 21 l left []) l left []:=
 ⟨h,h0,Z,by simp,fun _=>by simpa using h.len,21,rfl,fun _=>by have:=h.len;omega⟩
theorem mi_none {c:Cm}{id:Int}{hg:List Od × Int × List Ev}{l:List Od}{left:Int}{ts:List Ev}(h:MI c id hg l left ts)(hf:dv l (othS c.s)=none):hg=(l,left,ts):=by
 obtain⟨n,rfl,hn⟩:=h.goal
 by_cases h0:0<left
 ·obtain⟨m,rfl⟩:∃m,n=m+1:=⟨n-1,by have:=hn h0;omega⟩;rw[matL,if_pos h0,hf]
 ·exact matL_end (by omega)
theorem mi_stop {c:Cm}{id:Int}{hg:List Od × Int × List Ev}{l:List Od}{left:Int}{ts:List Ev}(h:MI c id hg l left ts){o:Od}(hf:dv l (othS c.s)=some o)(hm:dL c o=false):hg=(l,left,ts):=by
 obtain⟨n,rfl,hn⟩:=h.goal
 by_cases h0:0<left
 ·obtain⟨m,rfl⟩:∃m,n=m+1:=⟨n-1,by have:=hn h0;omega⟩;rw[matL,if_pos h0,hf];simp only[hm];rw[if_neg (by simp)]
 ·exact matL_end (by omega)
theorem mi_done {c:Cm}{id:Int}{hg:List Od × Int × List Ev}{l:List Od}{left:Int}{ts:List Ev}(h:MI c id hg l left ts)(h0:¬ 0<left):hg=(l,left,ts):=by
 obtain⟨n,rfl,hn⟩:=h.goal;exact matL_end (by omega)
theorem mi_step {c:Cm}{id:Int}{hg:List Od × Int × List Ev}{l:List Od}{left:Int}{ts:List Ev}(h:MI c id hg l left ts)(h0:0<left){o:Od}(hf:dv l (othS c.s)=some o)(hm:dL c o=true) :
  ∃k,plc l o.id=(k:Nat)/\l[k]? = some o/\MI c id hg (db l k o (min left o.left)) (left-min left o.left) (ts ++ [trE id o.id (min left o.left) o.ticks])/\2*(db l k o (min left o.left)).length+(if 0<left-min left o.left then 1 else 0)<2*l.length+1:=by
 obtain⟨un,_⟩:=fL hf;obtain⟨k,E⟩:=List.getElem?_of_mem un;have hp:=fd h.good.rise E;have D:=h.good.left o un;have Z:=h.l1;have hs:=h.some h0;obtain⟨F,hl⟩:=eT h.good E (qty:=min left o.left) (by omega) (by omega);obtain⟨n,hF,hn⟩:=h.goal;obtain⟨m,rfl⟩:∃m,n=m+1:=⟨n-1,by have:=hn h0;omega⟩;have hn:=hn h0;rw[matL,if_pos h0,hf] at hF;simp only[hm,if_true] at hF;rw[hp,Int.toNat_natCast] at hF;refine⟨k,hp,E,⟨F,by omega,by omega,?_,fun xK=>?_,m,hF,fun xK=>?_⟩,?_⟩
 ·rw[yQ];simp only[List.length_cons,List.length_nil];omega
 ·rw[yQ];simp only[List.length_cons,List.length_nil];omega
 ·omega
 ·split <;> omega
section
variable {base W W':World} {hg:(Nat->Value)->Act} {k:Nat} {ho:Prop->World->Nat->Value->Prop} {x:List Bool} {f:Nat->Value}
theorem eX (K:yp base W)(h:∀j,x[j]? = some true->ho (x[k]? = some true) W j (f j))(F:yp W W'){i:Nat}(hik:i≠k)(hm:∀j v,ho (x[k]? = some true) W j v->ho (x[k]? = some true) W' j v){v:Value}(hv:ho (x[k]? = some true) W' i v) :
  yp base W'/\∀j,(x.set i true)[j]? = some true->ho ((x.set i true)[k]? = some true) W' j (upd f i v j):=by
 refine⟨K.trans (F.mono K.size),fun j hj=>?_⟩;rw[yX hik]
 by_cases hji:j=i
 ·subst hji;rw[zp];exact hv
 ·rw[zu _ _ hji];rw[yX (fun e=>hji e.symm)] at hj;exact hm _ _ (h j hj)
theorem rgx_last (K:yp base W')(h:∀j,x[j]? = some true->ho (x[k]? = some true) W j (f j))(E:x[k]? = some false)(hm:∀j,j≠k->x[j]? = some true->ho False W j (f j)->ho True W' j (f j)){v:Value}(hv:ho True W' k v) :
  yp base W'/\∀j,(x.set k true)[j]? = some true->ho ((x.set k true)[k]? = some true) W' j (upd f k v j):=by
 have e:((x.set k true)[k]? = some true)=True:=by
  rw[List.getElem?_set_self (yH.1 E).1];simp
 refine⟨K,fun j hj=>?_⟩;rw[e]
 by_cases hji:j=k
 ·subst hji;rw[zp];exact hv
 ·rw[zu _ _ hji];rw[yX (fun e=>hji e.symm)] at hj;refine hm j hji hj ?_;have:=h j hj;rw[E] at this;simpa using this
end
theorem matS_made {V:World}{mb B:Nat}{next:Int}{a4:Option Addr}{c4:Nat}{l:List Od}{c:Cm}(ht:V.there mb 0 9)(K:∃xt,V.heap[mb]? = some (.cells xt 277 (0,0)))(D:ORow V B (.slice a4 l.length c4) l)(hB:B<=V.heap.size) :
  MatS mb B (V.setCells mb 0 [H next,.slice a4 l.length c4,H next,H c.s,H (tk c.p),H c.q,H c.l,yl c.g,.slice none 0 0]) next (.slice a4 l.length c4) l (ordO c next) (.slice none 0 0) []:=by
 have hn:some mb≠(Value.slice a4 l.length c4).ownBlock:=zF D K (by decide);have hr:=yY V mb 0 [H next,.slice a4 l.length c4,H next,H c.s,H (tk c.p),H c.q,H c.l,yl c.g,.slice none 0 0] (fun j hj=>ht j hj);refine⟨hr,fun j hj=>⟨?_,?_⟩,?_,World.ownsRow_nil _ _ _ _,?_,?_⟩
 ·obtain⟨u,hu⟩:∃u,[H next,.slice a4 l.length c4,H next,H c.s,H (tk c.p),H c.q,H c.l,yl c.g,.slice none 0 0][j]? = some u:=⟨_,yI (by simpa using hj)⟩;rw[hr j u hu];rfl
 ·have:=(ht j hj).2;simp only[World.setCells,World.frozen?_setCell];exact this
 ·simp only[World.setCells];exact zX (zX (zX (zX (zX (zX (zX (zX (zX D hn _ _) hn _ _) hn _ _) hn _ _) hn _ _) hn _ _) hn _ _) hn _ _) hn _ _
 ·obtain⟨xt,K⟩:=K;simp only[World.setCells];obtain⟨_,Z⟩:=ez V mb 0 (H next) K;obtain⟨_,Z⟩:=ez _ mb 1 (.slice a4 l.length c4) Z;obtain⟨_,Z⟩:=ez _ mb 2 (H next) Z;obtain⟨_,Z⟩:=ez _ mb 3 (H c.s) Z;obtain⟨_,Z⟩:=ez _ mb 4 (H (tk c.p)) Z;obtain⟨_,Z⟩:=ez _ mb 5 (H c.q) Z;obtain⟨_,Z⟩:=ez _ mb 6 (H c.l) Z;obtain⟨_,Z⟩:=ez _ mb 7 (yl c.g) Z;exact ez _ mb 8 (.slice none 0 0) Z
 ·simp only[World.setCells,World.setCell,Array.size_modify];exact hB
def DM (b2 B:Nat)(base:World)(next:Int)(a:Option Addr)(cap:Nat)(l:List Od)(c:Cm)(p:Prop)(V:World):Nat->Value->Prop
 | 0,v=>v = .agg #[H next,.slice a l.length cap]
 | 1,v=>∃a4 c4,v = .agg #[H next,.slice a4 l.length c4]/\(¬ p->ORow V B (.slice a4 l.length c4) l)
 | 2,v=>v = .agg #[H c.s,H c.t,H c.l,H c.q,yk c.p,yl c.g]
 | 3,v=>v=h3 b2 0
 | 4,v=>v=H next
 | 5,v=>v = .agg (yx next c.s (tk c.p) c.q c.l c.g).toArray
 | 6,v=>∃a4 c4,v = .agg #[H next,.slice a4 l.length c4,H next,H c.s,H (tk c.p),H c.q,H c.l,yl c.g,.slice none 0 0]/\(¬ p->ORow V B (.slice a4 l.length c4) l)
 | 7,v=>∃mb,v=h3 mb 0/\base.heap.size<=mb/\(¬ p->V.there mb 0 9/\∃xt,V.heap[mb]? = some (.cells xt 277 (0,0)))/\(p->∃a4 c4,MatS mb B V next (.slice a4 l.length c4) l (ordO c next) (.slice none 0 0) [])
 | _,_=>True
section
variable {b2 B:Nat} {base V V':World} {next:Int} {a:Option Addr} {cap:Nat} {l:List Od} {c:Cm} {p:Prop}
theorem dm_grow (hp:¬ p)(K:yp V V'):∀j v,DM b2 B base next a cap l c p V j v->DM b2 B base next a cap l c p V' j v:=by
 intro j v h
 match j with
 | 0|2|3|4|5=>exact h
 | 1=>obtain⟨a4,c4,Z,Q⟩:=h;exact⟨a4,c4,Z,fun hp=>zn (Q hp) K⟩
 | 6=>obtain⟨a4,c4,Z,Q⟩:=h;exact⟨a4,c4,Z,fun hp=>zn (Q hp) K⟩
 | 7 =>
  obtain⟨mb,Z,Q,I,h4⟩:=h;refine⟨mb,Z,Q,fun hp=>?_,fun h=>absurd h hp⟩;obtain⟨h5,xt,h6⟩:=I hp;have xK:=(yZ.1 h6).1;exact⟨zk h5 K xK,xt,(K.block mb xK).trans h6⟩
 | j+8=>trivial
theorem dm_last {v:Value}:∀j,j≠8->DM b2 B base next a cap l c False V j v->(j=7->DM b2 B base next a cap l c True V' 7 v)->DM b2 B base next a cap l c True V' j v:=by
 intro j hj h h7
 match j with
 | 0|2|3|4|5=>exact h
 | 1=>obtain⟨a4,c4,Z,Q⟩:=h;exact⟨a4,c4,Z,fun hp=>absurd trivial hp⟩
 | 6=>obtain⟨a4,c4,Z,Q⟩:=h;exact⟨a4,c4,Z,fun hp=>absurd trivial hp⟩
 | 7=>exact h7 rfl
 | j+8=>trivial
end
theorem matS_next {mb B:Nat}{W:World}{next:Int}{vq:Value}{l:List Od}{t:Od}{vt:Value}{ts:List Ev}(h:MatS mb B W next vq l t vt ts)(n':Int):MatS mb B (W.setCell (Y mb 0) (H n')) n' vq l t vt ts:=by
 have hoth:∀j,j≠0->(W.setCell (Y mb 0) (H n')).cell? (Y mb j)=W.cell? (Y mb j):=fun j hj=>yM _ _ _ _ (zV (fun e=>hj e.symm));have jT:(W.setCell (Y mb 0) (H n')).cell? (Y mb 0)=some (H n'):=yN _ _ _ (h.cells 0 _ rfl);refine⟨?_,fun j hj=>⟨?_,?_⟩,zX h.orow h.nq 0 _,zX h.erow h.nt 0 _,by obtain⟨xt,hc⟩:=h.box;exact ez W mb 0 _ hc,by have:=h.le;simpa[World.setCell] using this⟩
 ·intro j u hj;rw[Nat.zero_add];rcases j with _ | j
  ·cases hj;exact jT
  ·rw[hoth (j+1) (by omega)];have:W.cell? (Y mb (0+(j+1)))=some u:=h.cells (j+1) u hj;rwa[Nat.zero_add] at this
 ·rw[Nat.zero_add];rcases j with _ | j
  ·rw[jT];rfl
  ·rw[hoth (j+1) (by omega)];have:=(h.there (j+1) hj).1;rwa[Nat.zero_add] at this
 ·rw[World.frozen?_setCell];exact(h.there j hj).2
theorem iX {mb B:Nat}{W W':World}{next:Int}{vq:Value}{l:List Od}{t:Od}{vt:Value}{ts:List Ev}(h:MatS mb B W next vq l t vt ts)(K:yp W W'):MatS mb B W' next vq l t vt ts:=
 ⟨zf h.cells K h.lt,zk h.there K h.lt,zn h.orow K,zO h.erow K,by obtain⟨xt,hc⟩:=h.box;exact⟨xt,(K.block mb h.lt).trans hc⟩,yO h.le K.size⟩
def meas (mb:Nat)(W:World):Nat:=(match W.cell? (Y mb 1) with|some (.slice _ n _)=>2*n | _=>0)+(match W.cell? (Y mb 5) with|some (.int _ n)=>if 0<n then 1 else 0 | _=>0)
theorem meas_eq {mb B:Nat}{W:World}{next:Int}{vq:Value}{l:List Od}{t:Od}{vt:Value}{ts:List Ev}(h:MatS mb B W next vq l t vt ts):meas mb W=2*l.length+(if 0<t.left then 1 else 0):=by
 have Z:W.cell? (Y mb 1)=some vq:=h.cells 1 _ rfl;have h5:W.cell? (Y mb 5)=some (H t.left):=h.cells 5 _ rfl
 have hq:∃a c,vq = .slice a l.length c:=by
  rcases h.orow.2 with⟨e,e2⟩|⟨g,cap,xt,e,_⟩
  ·exact⟨none,0,by rw[e,e2]⟩
  ·exact⟨_,_,e⟩
 obtain⟨a,c,rfl⟩:=hq;rw[meas,Z,h5]
theorem match_end {w W3 W8:World}{mb:Nat}{next:Int}{vq vt:Value}{l:List Od}{t:Od}{ts:List Ev}(hM:MatS mb W3.heap.size W8 next vq l t vt ts)(hK:KeptBut mb W3.heap.size W3 W8)(K:yp w W3)(hs:W3.heap.size=w.heap.size+1+1+1)(hm:W3.heap.size<=mb)(vs:List Value)(hv:vs.length=9)(ht:W8.there (w.heap.size+1+1) 0 9) :
  (W8.setCells (w.heap.size+1+1) 0 vs).rangeAt (w.heap.size+1+1) 0 vs/\ORow (W8.setCells (w.heap.size+1+1) 0 vs) w.heap.size vq l/\ERow (W8.setCells (w.heap.size+1+1) 0 vs) w.heap.size vt ts/\yp w (W8.setCells (w.heap.size+1+1) 0 vs):=by
 have hb8:yp w W8:=⟨hK.os.trans K.os,hK.tape.trans K.tape,hK.output.trans K.output,yO K.size hK.size,fun k E=>(hK.block k (by omega) (by omega)).trans (K.block k E)⟩;have kD:yp w (W8.setCells (w.heap.size+1+1) 0 vs):=zj (w.heap.size+1+1) (by omega) vs 0 W8 hb8
 have uN:W8.grownBy (W8.setCells (w.heap.size+1+1) 0 vs) (some (w.heap.size+1+1)):=by
  have h9:∀(us:List Value) (o:Nat) (xh:World),xh.grownBy (xh.setCells (w.heap.size+1+1) o us) (some (w.heap.size+1+1)):=by
   intro us
   induction us with
   | nil=>intro o xh;exact⟨rfl,rfl,rfl,Nat.le_refl _,fun _ _ _=>rfl⟩
   | cons u r ih =>
    intro o xh;have Z:xh.grownBy (xh.setCell (Y (w.heap.size+1+1) o) u) (some (w.heap.size+1+1)):=⟨rfl,rfl,rfl,by simp[World.setCell],fun k _ E=>yT _ _ _ _ (fun e=>E (by rw[e]))⟩;exact Z.trans (ih (o+1) _)
  exact h9 vs 0 W8
 have n4:∀v:Value,(∀g,v.ownBlock=some g->W3.heap.size<=g)->v.ownBlock=none\/v.ownBlock≠some (w.heap.size+1+1):=fun v hv=>.inr (fun e=>by have:=hv _ e;omega);exact⟨yY W8 _ 0 vs (fun j hj=>ht j (by omega)),fM (hM.orow.kept uN (n4 vq (fun g F=>(hM.orow.lt g F).1))) (by omega),fM (hM.erow.kept uN (n4 vt (fun g F=>(hM.erow.lt g F).1))) (by omega),kD⟩
def SdV (V:World)(v:Value)(l:List Od)(sd:Int):Prop:=(sd=1/\∃b,v=fj b/\dI 261 true V b 1 (zC l 1))\/(¬ sd=1/\∃b,v=fm b/\dI 264 false V b sd (zC l sd))
def FrV (V:World)(v:Value)(l:List Od)(sd:Int):Prop:=(sd=1/\∃b,v = .func (.func 166) #[h3 b 0] #[]/\dI 261 true V b 1 (zC l 1))\/(¬ sd=1/\∃b,v = .func (.func 170) #[h3 b 0] #[]/\dI 264 false V b sd (zC l sd))
theorem field0_bm (b:Nat)(W:World):Sem.run Tryz.prog (Instr.field 177 (fj b) 0) W = .ok (.func (.func 166) #[h3 b 0] #[]) W:=by kernel_rfl
theorem field0_sm (b:Nat)(W:World):Sem.run Tryz.prog (Instr.field 177 (fm b) 0) W = .ok (.func (.func 170) #[h3 b 0] #[]) W:=by kernel_rfl
def DQ (mb b3:Nat)(base:World)(BV:Value)(s sd:Int)(l:List Od)(x:Od)(fb:Bool)(p:Prop)(V:World):Nat->Value->Prop
 | 0,v=>v=h3 mb 0
 | 1,v=>v=BV
 | 2,v=>v=h3 b3 0
 | 3,v=>v=H s
 | 4,v=>v=H sd
 | 5,v=>¬ p->SdV V v l sd
 | 6,v=>¬ p->FrV V v l sd
 | 7,v=>v = .tuple #[.agg (yx x.id x.side x.ticks x.left x.life x.tag).toArray,.bool fb]
 | 8,v=>v = .tuple #[.agg (yx x.id x.side x.ticks x.left x.life x.tag).toArray,.bool fb]
 | 9,v=>v = .agg (yx x.id x.side x.ticks x.left x.life x.tag).toArray
 | 10,v=>v = .bool fb
 | 11,v=>∃pb,v=h3 pb 0/\base.heap.size<=pb/\(¬ p->V.there pb 0 6/\pb<V.heap.size)/\(p->V.rangeAt pb 0 x.vs/\pb<V.heap.size)
 | 13,v=>v = .bool fb
 | _,_=>True
section
variable {mb b3:Nat} {base V V':World} {BV:Value} {s sd:Int} {l:List Od} {x:Od} {fb:Bool} {p:Prop}
theorem dq_grow (hp:¬ p)(K:yp V V'):∀j v,DQ mb b3 base BV s sd l x fb p V j v->DQ mb b3 base BV s sd l x fb p V' j v:=by
 intro j v h
 match j with
 | 0|1|2|3|4|7|8|9|10|13=>exact h
 | 5 =>
  intro hp;rcases h hp with⟨Z,b,Q,I⟩|⟨Z,b,Q,I⟩
  ·exact .inl ⟨Z,b,Q,zI I (K.block _ (ed I))⟩
  ·exact .inr ⟨Z,b,Q,zI I (K.block _ (ed I))⟩
 | 6 =>
  intro hp;rcases h hp with⟨Z,b,Q,I⟩|⟨Z,b,Q,I⟩
  ·exact .inl ⟨Z,b,Q,zI I (K.block _ (ed I))⟩
  ·exact .inr ⟨Z,b,Q,zI I (K.block _ (ed I))⟩
 | 11 =>
  obtain⟨pb,Z,Q,I,h4⟩:=h;refine⟨pb,Z,Q,fun hp=>?_,fun h=>absurd h hp⟩;obtain⟨h5,h6⟩:=I hp;exact⟨zk h5 K h6,yK h6 K.size⟩
 | 12=>trivial
 | j+14=>trivial
theorem dq_last {v:Value}:∀j,j≠12->DQ mb b3 base BV s sd l x fb False V j v->(j=11->DQ mb b3 base BV s sd l x fb True V' 11 v)->DQ mb b3 base BV s sd l x fb True V' j v:=by
 intro j hj h jS
 match j with
 | 0|1|2|3|4|7|8|9|10|13=>exact h
 | 5=>exact fun hp=>absurd trivial hp
 | 6=>exact fun hp=>absurd trivial hp
 | 11=>exact jS rfl
 | 12=>trivial
 | j+14=>trivial
end
def backC:Nat->List Oper->Bool
 | _,[]=>true
 | i,o::r=>o.after.toList.all (fun e=>!Region.binds .any e||decide (e.on<i))&&backC (i+1) r
theorem backC_spec:∀(l:List Oper) (n:Nat),backC n l=true->∀(i:Nat) (o:Oper),l[i]? = some o->∀e∈o.after,Region.binds .any e=true->e.on<n+i
 | [],_,_,i,o,h,_,_,_=>by simp at h
 | a::r,n,K,0,o,h,e,he,hbd=>by
  simp at h;subst h;simp only[backC,xf,List.all_eq_true] at K;have:=K.1 e (by simpa using he);rw[hbd] at this;simpa using this
 | a::r,n,K,i+1,o,h,e,he,hbd=>by
  simp only[backC,xf] at K;have:=backC_spec r (n+1) K.2 i o (by simpa using h) e he hbd;omega
theorem fo {l:List Oper}{x:List Bool}(h:Region.ready .any l.toArray x.toArray = [])(hx:x.length=l.length)(K:backC 0 l=true):∀i,i<l.length->x[i]? = some true:=by
 intro i
 induction i using Nat.strongRecOn with
 | _ i ih =>
  intro hi;refine ready_none h hx i l[i] (yI hi) fun e he hbd=>?_;have:=backC_spec l 0 K i l[i] (yI hi) e he hbd;exact ih e.on (by omega) (by omega)
theorem match_any (next:Int)(vb:Value)(l:List Od)(c:Cm)(w:World)(hr:RdR Od.vs 6 w vb l)(hs:SlOk vb)(F:GoodL l)(h0:0<=next)(Z:next<=1000000)(aE:0<=c.q)(aG:c.q<=1000000) :
  Calls Tryz.prog 203 #[.agg #[H next,vb],noV c] w fun e w'=>∃vq vt,e=yn (.agg #[H (next+1),vq,H next,H c.s,H (tk c.p),H (matL c next 21 l c.q []).2.1,H c.l,yl c.g,vt])/\ORow w' w.heap.size vq (matL c next 21 l c.q []).1/\ERow w' w.heap.size vt (matL c next 21 l c.q []).2.2/\yp w w':=by
 have HR:=U hr;have HG:=U F;have hsl:=hs;have HMI:=U (mi_start (c:=c) (id:=next) F aE aG);have hn:=F.len;obtain⟨a,cap,rfl,xC,hc⟩:=hr;generalize hF:matL c next 21 l c.q []=hg at HMI |-;clear hF hc F hs;obtain⟨kk,s,ty,li,qt,ii,pr,tg⟩:=c;unfold noV;simp only at *;have xG:=zi w (me #[H next,.slice a l.length cap] 31);have ug:((w.alloc (me #[H next,.slice a l.length cap] 31)).alloc (me #[H s,H ty,H li,H qt,yk pr,yl tg] 142)).heap.size=w.heap.size+1+1:=by rw[zi,xG]
 have qv:(((w.alloc (me #[H next,.slice a l.length cap] 31)).alloc (me #[H s,H ty,H li,H qt,yk pr,yl tg] 142)).alloc (me #[H 0,.slice none 0 0,H 0,H 0,H 0,H 0,H 0,yl ⟨#[]⟩,.slice none 0 0] 277)).heap.size=w.heap.size+1+1+1:=by rw[zi,ug]
 have r1:=zm w [H next,.slice a l.length cap] 31;have r2:=zm (w.alloc (me #[H next,.slice a l.length cap] 31)) [H s,H ty,H li,H qt,yk pr,yl tg] 142;rw[xG] at r2;have t3:=zM ((w.alloc (me #[H next,.slice a l.length cap] 31)).alloc (me #[H s,H ty,H li,H qt,yk pr,yl tg] 142)) [H 0,.slice none 0 0,H 0,H 0,H 0,H 0,H 0,yl ⟨#[]⟩,.slice none 0 0] 277;rw[ug] at t3;have xL:Hid (yp w (((w.alloc (me #[H next,.slice a l.length cap] 31)).alloc (me #[H s,H ty,H li,H qt,yk pr,yl tg] 142)).alloc (me #[H 0,.slice none 0 0,H 0,H 0,H 0,H 0,H 0,yl ⟨#[]⟩,.slice none 0 0] 277))):=((mc _ _).alloc (by rw[xG];omega) _).alloc (by rw[ug];omega) _;have b23:Below (w.heap.size+1+1) ((w.alloc (me #[H next,.slice a l.length cap] 31)).alloc (me #[H s,H ty,H li,H qt,yk pr,yl tg] 142)) (((w.alloc (me #[H next,.slice a l.length cap] 31)).alloc (me #[H s,H ty,H li,H qt,yk pr,yl tg] 142)).alloc (me #[H 0,.slice none 0 0,H 0,H 0,H 0,H 0,H 0,yl ⟨#[]⟩,.slice none 0 0] 277)):=(Below.refl _ _).alloc (by rw[ug];omega) _;have qE:Below (w.heap.size+1) (w.alloc (me #[H next,.slice a l.length cap] 31)) ((w.alloc (me #[H next,.slice a l.length cap] 31)).alloc (me #[H s,H ty,H li,H qt,yk pr,yl tg] 142)):=(Below.refl _ _).alloc (by rw[xG];omega) _;have HX:Hid (_/\_/\_):=⟨zf (zf r1 qE (by omega)) b23 (by omega),zf r2 b23 (by omega),t3⟩;have jz:=U qv;clear xG ug qv r1 r2 t3 b23 qE;go_enter Tryz.func203,Tryz.ntmps203
 go_wp2_with fail
 go_step3
 go_wp2_with fail;generalize (((w.alloc (me #[H next,.slice a l.length cap] 31)).alloc (me #[H s,H ty,H li,H qt,yk pr,yl tg] 142)).alloc (me #[H 0,.slice none 0 0,H 0,H 0,H 0,H 0,H 0,yl ⟨#[]⟩,.slice none 0 0] 277))=W3 at xL HX jz |-;have HX:Hid (W3.rangeAt w.heap.size 0 [H next,.slice a l.length cap]/\W3.rangeAt (w.heap.size+1) 0 [H s,H ty,H li,H qt,yk pr,yl tg]/\W3.there (w.heap.size+1+1) 0 9):=O HX;have hw3:W3.heap.size=w.heap.size+1+1+1:=O jz;have jP:=U (zq (O HR) (O xL) yb);refine zA (RG W3 (fun f=>{ tmps:=#[.agg #[H next,.slice a l.length cap],.agg #[H s,H ty,H li,H qt,yk pr,yl tg],yq w 0,h3 (w.heap.size+1) 0,h3 (w.heap.size+1+1) 0,f 7,M,M,f 0,f 1,f 2,f 3,f 4,f 5,f 6,M,M,M,M,M,M,M,M,M,M,M,M,M,M,M,M,M,M,M,M,M,M,M,M,M,M,M,M,M,M,M],defers:=[] }) 8 (DM w.heap.size W3.heap.size W3 next a cap l ⟨kk,s,ty,li,qt,ii,pr,tg⟩)) (by kernel_rfl) ?_ ?_ ?_
 ·exact⟨fun _=>M,rfl,⟨rfl,rfl,rfl,Nat.le_refl _,fun _ _=>rfl⟩,fun j hj=>by rw[yJ] at hj;split at hj <;> simp at hj⟩
 ·rintro x md V ⟨f,rfl,xl,hD⟩ hx xY;have xq:=eM xY hx (acyc _ (by kernel_rfl));have k8:x[8]? = some true:=xq 8 (by simp);obtain⟨mb,g7,hmb,-,qX⟩:=hD 7 (xq 7 (by simp));obtain⟨a4,c4,hM⟩:=qX k8;have HM:=U hM;have xI:=U xl;have y0:V.cell? (Y mb 0)=some (H next):=hM.cells 0 _ rfl;have f0:V.frozen? (Y mb 0)=false:=by have:=(hM.there 0 (by omega)).2;rwa[Nat.zero_add] at this
  have hwr:IntKind.i64.wrap (next+1)=next+1:=by rw[IntKind.wrap_i64];omega
  dsimp only;simp only[g7];generalize f 0=e0,f 1=e1,f 2=e2,f 3=e3,f 4=e4,f 5=e5,f 6=e6;clear hD xq xY hx k8 qX hM xl g7 x f;go_wp2_with fail
  go_step3
  go_wp2_with fail;have HMB:=U hmb;clear hw3 hmb y0 f0;go_loopw [] (fun wr=>∃vq ll lf vt ts,Hid (MatS mb W3.heap.size wr (next+1) vq ll ⟨next,s,tk pr,lf,li,tg⟩ vt ts)/\Hid (MI ⟨kk,s,ty,li,qt,ii,pr,tg⟩ next hg ll lf ts)/\Hid (KeptBut mb W3.heap.size W3 wr)) (fun wr=>meas mb wr)
  case atStart=>exact⟨_,l,qt,_,[],matS_next (O HM) (next+1),O HMI,gV (lB (O xI) yb) (kept_set V 0 _)⟩
  case round =>
   obtain⟨vq,ll,lf,vt,ts,hM,hI,hK⟩:=hrel;have y5:wr.cell? (Y mb 5)=some (H lf):=(O hM).cells 5 _ rfl
   obtain⟨av,cv,rfl⟩:∃a c,vt = .slice a ts.length c:=by
    rcases(O hM).erow.2 with⟨e,e2⟩|⟨g,cap,xt,e,_⟩
    ·exact⟨none,0,by rw[e,e2]⟩
    ·exact⟨_,_,e⟩
   obtain⟨aq,cq,rfl⟩:∃a c,vq = .slice a ll.length c:=by
    rcases(O hM).orow.2 with⟨e,e2⟩|⟨g,cap,xt,e,_⟩
    ·exact⟨none,0,by rw[e,e2]⟩
    ·exact⟨_,_,e⟩
   by_cases aZ:0<lf
   ·have kK:=U (O hI).good;have aP:Hid (∀o'∈ll,0<=o'.left/\o'.left<=1000000):=fun o' qe=>by have:=(O kK).left o' qe;omega
    have vv:=U (zZ (O hM).orow (by have:=(O kK).len;omega));generalize uF:othS s=sd;have bF:=U uF;generalize hq:quOf (decide (sd=1)) (zC ll sd)=q;have je:=frOf_eq q;generalize hx:hdO q=x at je;generalize pN:hdF q=fb at je;have bp:Hid (frOf (quOf (decide (sd=1)) (zC ll sd)) = .tuple #[.agg (yx x.id x.side x.ticks x.left x.life x.tag).toArray,.bool fb]):=by show _ = _;rw[hq];exact je
    have HFO:Hid (dv ll (othS s)=if fb=true then some x else none):=by
     show _ = _;rw[dv,uF,hq,<- hx,<- pN,hdO,hdF];cases q.head? <;> rfl
    clear uF hq je hx pN q;have qv:=O jz;have cQ:∀j,wr.cell? (Y (w.heap.size+1) j)=W3.cell? (Y (w.heap.size+1) j):=fun j=>yR (a:=(Y (w.heap.size+1) j)) ((O hK).block (w.heap.size+1) (by omega) (by have:=O HMB;omega));have bz:Hid (wr.rangeAt (w.heap.size+1) 0 [H s,H ty,H li,H qt,yk pr,yl tg]):=fun j u hj=>(cQ _).trans ((O HX).2.1 j u hj);have hl3:w.heap.size+1<wr.heap.size:=by have:=(O hK).size;omega
    clear cQ qv;go_wp2_with fail;refine zA (RG wr (fun f=>{ tmps:=#[.agg #[H next,.slice a l.length cap],.agg #[H s,H ty,H li,H qt,yk pr,yl tg],yq w 0,h3 (w.heap.size+1) 0,h3 (w.heap.size+1+1) 0,h3 mb 0,f 11,f 13,e0,e1,e2,e3,e4,e5,e6,h3 mb 0,h3 mb 0,H next,H (next+1),h3 mb 0,h3 mb 0,h3 mb 2,h3 mb 5,H lf,.bool true,f 8,f 0,f 1,f 2,f 3,f 4,f 5,f 6,f 7,f 9,f 10,u36,u37,u38,u39,u40,u41,u42,u43,u44,M],defers:=[] }) 12 (DQ mb (w.heap.size+1) wr (.agg #[H (next+1),.slice aq ll.length cq]) s sd ll x fb)) (by kernel_rfl) ?_ ?_ ?_
    ·exact⟨fun j=>if j=0 then u26 else if j=1 then u27 else if j=2 then u28 else if j=3 then u29 else if j=4 then u30 else if j=5 then u31 else if j=6 then u32 else if j=7 then u33 else if j=8 then u25 else if j=9 then u34 else if j=10 then u35 else if j=11 then u6 else if j=13 then u7 else M,rfl,⟨rfl,rfl,rfl,Nat.le_refl _,fun _ _=>rfl⟩,fun j hj=>by rw[yJ] at hj;split at hj <;> simp at hj⟩
    ·rintro xx md xh ⟨f,rfl,xl,hD⟩ hx xY;have xq:=fo xY hx (by kernel_rfl);have k12:xx[12]? = some true:=xq 12 (by simp);have pA:f 13 = .bool fb:=hD 13 (xq 13 (by simp));obtain⟨pb,jR,hpb,-,qX⟩:=hD 11 (xq 11 (by simp));obtain⟨ch,cf⟩:=qX k12;have kw:=U (iX (O hM) xl);have kL:=U (gV (O hK) (lB xl (O hM).le));have o0:=zf (O bz) xl hl3 0 _ rfl;have o1:=zf (O bz) xl hl3 1 _ rfl;have o2:=zf (O bz) xl hl3 2 _ rfl;have o3:=zf (O bz) xl hl3 3 _ rfl;have o4:=zf (O bz) xl hl3 4 _ rfl;have o5:=zf (O bz) xl hl3 5 _ rfl;have HRG:=U ch;obtain⟨p0,p1,p2,p3,p4,p5⟩:=zL ch;simp only[Nat.zero_add] at o0 o1 o2 o3 o4 o5 p0 p1 p2 p3 p4 p5;dsimp only;simp only[pA,jR];generalize f 0=b0,f 1=b1,f 2=b2,f 3=b3,f 4=b4,f 5=b5,f 6=b6,f 7=b7,f 8=b8,f 9=b9,f 10=b10;clear hD xq xY hx k12 qX xl jR pA ch hpb f xx y5;cases fb
     ·have HFE:Hid (hg=(ll,lf,ts)):=mi_none (O hI) (by have:=O HFO;simpa using this);clear o0 o1 o2 o3 o4 o5 p0 p1 p2 p3 p4 p5
      have xU:xh.there (w.heap.size+1+1) 0 9:=fun j hj=>by
       have K:=(O kL).block (w.heap.size+1+1) (by have:=O jz;omega) (by have:=O jz;have:=O HMB;omega);have:=(O HX).2.2 j hj;rw[yR (a:=(Y (w.heap.size+1+1) (0+j))) K,World.frozen?_of_block (a:=(Y (w.heap.size+1+1) (0+j))) K];exact this
      have xr:=U (match_end (O kw) (O kL) (O xL) (O jz) (O HMB) [H (next+1),.slice aq ll.length cq,H next,H s,H (tk pr),H lf,H li,yl tg,.slice av ts.length cv] rfl xU);have c0:=(O kw).cells 0 _ rfl;have c1:=(O kw).cells 1 _ rfl;have c2:=(O kw).cells 2 _ rfl;have c3:=(O kw).cells 3 _ rfl;have c4:=(O kw).cells 4 _ rfl;have c5:=(O kw).cells 5 _ rfl;have c6:=(O kw).cells 6 _ rfl;have c7:=(O kw).cells 7 _ rfl;have c8:=(O kw).cells 8 _ rfl;simp only[Nat.zero_add] at c0 c1 c2 c3 c4 c5 c6 c7 c8;obtain⟨v0,z0,q0⟩:=zN xU 0 (by omega);obtain⟨v1,z1,q1⟩:=zN xU 1 (by omega);obtain⟨v2,z2,q2⟩:=zN xU 2 (by omega);obtain⟨v3,z3,q3⟩:=zN xU 3 (by omega);obtain⟨v4,z4,q4⟩:=zN xU 4 (by omega);obtain⟨v5,z5,q5⟩:=zN xU 5 (by omega);obtain⟨v6,z6,q6⟩:=zN xU 6 (by omega);obtain⟨v7,z7,q7⟩:=zN xU 7 (by omega);obtain⟨v8,z8,q8⟩:=zN xU 8 (by omega);simp only[Nat.zero_add] at z0 q0 z1 q1 z2 q2 z3 q3 z4 q4 z5 q5 z6 q6 z7 q7 z8 q8;clear xU;go_wp2_with fail
      try simp +zetaDelta only[Exit.noGoto_ret]
      change bodyPost _ _ _ _ _ (xh.setCells (w.heap.size+1+1) 0 [H (next+1),.slice aq ll.length cq,H next,H s,H (tk pr),H lf,H li,yl tg,.slice av ts.length cv]);generalize xh.setCells (w.heap.size+1+1) 0 [H (next+1),.slice aq ll.length cq,H next,H s,H (tk pr),H lf,H li,yl tg,.slice av ts.length cv]=WE at xr |-;obtain⟨d0,d1,d2,d3,d4,d5,d6,d7,d8⟩:=yF (O xr).1
      try simp only[Exit.inBlock,Exit.then]
      refine bodyPost_ret (by simp[results,Tryz.results203,go_sem,d0,d1,d2,d3,d4,d5,d6,d7,d8];try rfl) rfl ?_
      rw[O HFE];exact⟨_,_,rfl,(O xr).2.1,(O xr).2.2.1,(O xr).2.2.2⟩
     ·have HFO:Hid (dv ll (othS s)=some x):=by show _ = _;have:=O HFO;simpa using this
      go_wp2_with fail;refine(meets_any ⟨kk,s,ty,li,qt,ii,pr,tg⟩ x xh).mono ?_;rintro e w5 ⟨rfl,uj⟩;have HM5:=U (iX (O kw) uj);have HK5:=U (gV (O kL) (lB uj (O kw).le));obtain⟨s0,s1,s2,s3,s4,s5⟩:=zL (zf (O HRG) uj cf);simp only[Nat.zero_add] at s0 s1 s2 s3 s4 s5;clear o0 o1 o2 o3 o4 o5 p0 p1 p2 p3 p4 p5 uj;cases hme:dL ⟨kk,s,ty,li,qt,ii,pr,tg⟩ x
      ·have HFE:Hid (hg=(ll,lf,ts)):=mi_stop (O hI) (O HFO) hme;clear s0 s1 s2 s3 s4 s5 hme
       have xU:w5.there (w.heap.size+1+1) 0 9:=fun j hj=>by
        have K:=(O HK5).block (w.heap.size+1+1) (by have:=O jz;omega) (by have:=O jz;have:=O HMB;omega);have:=(O HX).2.2 j hj;rw[yR (a:=(Y (w.heap.size+1+1) (0+j))) K,World.frozen?_of_block (a:=(Y (w.heap.size+1+1) (0+j))) K];exact this
       have xr:=U (match_end (O HM5) (O HK5) (O xL) (O jz) (O HMB) [H (next+1),.slice aq ll.length cq,H next,H s,H (tk pr),H lf,H li,yl tg,.slice av ts.length cv] rfl xU);have c0:=(O HM5).cells 0 _ rfl;have c1:=(O HM5).cells 1 _ rfl;have c2:=(O HM5).cells 2 _ rfl;have c3:=(O HM5).cells 3 _ rfl;have c4:=(O HM5).cells 4 _ rfl;have c5:=(O HM5).cells 5 _ rfl;have c6:=(O HM5).cells 6 _ rfl;have c7:=(O HM5).cells 7 _ rfl;have c8:=(O HM5).cells 8 _ rfl;simp only[Nat.zero_add] at c0 c1 c2 c3 c4 c5 c6 c7 c8;obtain⟨v0,z0,q0⟩:=zN xU 0 (by omega);obtain⟨v1,z1,q1⟩:=zN xU 1 (by omega);obtain⟨v2,z2,q2⟩:=zN xU 2 (by omega);obtain⟨v3,z3,q3⟩:=zN xU 3 (by omega);obtain⟨v4,z4,q4⟩:=zN xU 4 (by omega);obtain⟨v5,z5,q5⟩:=zN xU 5 (by omega);obtain⟨v6,z6,q6⟩:=zN xU 6 (by omega);obtain⟨v7,z7,q7⟩:=zN xU 7 (by omega);obtain⟨v8,z8,q8⟩:=zN xU 8 (by omega);simp only[Nat.zero_add] at z0 q0 z1 q1 z2 q2 z3 q3 z4 q4 z5 q5 z6 q6 z7 q7 z8 q8;clear xU;go_wp2_with fail
       try simp +zetaDelta only[Exit.noGoto_ret]
       change bodyPost _ _ _ _ _ (w5.setCells (w.heap.size+1+1) 0 [H (next+1),.slice aq ll.length cq,H next,H s,H (tk pr),H lf,H li,yl tg,.slice av ts.length cv]);generalize w5.setCells (w.heap.size+1+1) 0 [H (next+1),.slice aq ll.length cq,H next,H s,H (tk pr),H lf,H li,yl tg,.slice av ts.length cv]=WE at xr |-;obtain⟨d0,d1,d2,d3,d4,d5,d6,d7,d8⟩:=yF (O xr).1
       try simp only[Exit.inBlock,Exit.then]
       refine bodyPost_ret (by simp[results,Tryz.results203,go_sem,d0,d1,d2,d3,d4,d5,d6,d7,d8];try rfl) rfl ?_
       rw[O HFE];exact⟨_,_,rfl,(O xr).2.1,(O xr).2.2.1,(O xr).2.2.2⟩
      ·obtain⟨k,uO,hkk,hI6,hms⟩:=mi_step (O hI) aZ (O HFO) hme;have hxm:=(O kK).left x (yP hkk);have vS:Hid (_/\_/\_/\_):=⟨uO,hkk,hI6,hms⟩;have hl1:=(O hI).l1;have ay:=(O kK).len;have hfew:=(O hI).few;have vN:Hid (0<=lf/\lf<=1000000/\0<=x.left/\x.left<=1000000/\ll.length<=1000/\ts.length<=1000):=⟨by omega,by omega,by omega,by omega,by omega,by omega⟩;clear uO hkk hI6 hms hme hxm hl1 ay hfew;go_wp2_with fail;refine(trade_any mb W3.heap.size (next+1) _ ll ⟨next,s,tk pr,lf,li,tg⟩ _ ts x k w5 (O HM5) (O vS).1 (O vS).2.1 (O vN).2.2.2.2.1 (O vN).2.2.2.2.2 (O vN).1 (O vN).2.1 (O vN).2.2.1 (O vN).2.2.2.1 _ rfl).mono ?_;rintro e w6 ⟨uB,ow,rfl,hM6,hK6⟩;have HM6:=U hM6;have HK6:=U hK6;clear hM6 hK6 s0 s1 s2 s3 s4 s5;go_wp2_with fail;dsimp only[H,h3,Y];go_roundw
       case rel=>exact⟨uB,_,_,ow,_,O HM6,(O vS).2.2.1,gV (O HK5) (O HK6)⟩
       case measure =>
        rw[meas_eq (O HM6),meas_eq (O hM)];have:=(O vS).2.2.2;simp only[if_pos aZ];exact this
    ·rintro xx md xh i op ⟨f,rfl,xl,hD⟩ xo hx D xA X
     have n12':i≠10->i<12->¬ xx[12]? = some true:=fun xE xK qP=>by
      have jS:=yh xo 12 rfl qP 11 rfl;have h9:=yh xo 12 rfl qP 9 rfl;have h8:=yh xo 9 rfl h9 8 rfl;have h7:=yh xo 8 rfl h8 7 rfl;have h6:=yh xo 7 rfl h7 6 rfl;have h5:=yh xo 6 rfl h6 5 rfl;have Z:=yh xo 5 rfl h5 1 rfl;have h4:=yh xo 5 rfl h5 4 rfl;have h0:=yh xo 1 rfl Z 0 rfl;have I:=yh xo 4 rfl h4 3 rfl;have Q:=yh xo 3 rfl I 2 rfl
      have qW:∀j,j≠10->j<12->xx[j]? = some true:=fun j ax hj=>by
       rcases(by omega:j=0\/j=1\/j=2\/j=3\/j=4\/j=5\/j=6\/j=7\/j=8\/j=9\/j=11) with rfl|rfl|rfl|rfl|rfl|rfl|rfl|rfl|rfl|rfl|rfl <;> assumption
      rw[qW i xE xK] at xA;cases xA
     clear xo y5;have qx:=U xl;have HD:=U hD;have kM:=U (zq (O vv) xl yb);have z0:=zf (O hM).cells xl (O hM).lt 0 _ rfl;have z1:=zf (O hM).cells xl (O hM).lt 1 _ rfl;have o0:=zf (O bz) xl hl3 0 _ rfl;rw[Nat.zero_add] at z0 z1 o0
     match i,D with
    | 0,D =>
     cases D;clear X hD xl;go_simp;exact⟨upd f 0 (h3 mb 0),by simp[upd],zx (O qx) (O HD) (by decide) rfl⟩
    | 1,D =>
     cases D;have g:f 0=h3 mb 0:=hD 0 (yf X 0 rfl);clear X hD xl;go_simp;exact⟨upd f 1 (.agg #[H (next+1),.slice aq ll.length cq]),by simp[upd,g],zx (O qx) (O HD) (by decide) rfl⟩
    | 2,D =>
     cases D;clear X hD xl;go_simp;exact⟨upd f 2 (h3 (w.heap.size+1) 0),by simp[upd],zx (O qx) (O HD) (by decide) rfl⟩
    | 3,D =>
     cases D;have g:f 2=h3 (w.heap.size+1) 0:=hD 2 (yf X 2 rfl);clear X hD xl;go_simp;exact⟨upd f 3 (H s),by simp[upd,g],zx (O qx) (O HD) (by decide) rfl⟩
    | 4,D =>
     cases D;have g:f 3=H s:=hD 3 (yf X 3 rfl);clear X hD xl;go_simp;refine(otherSide_any s xh).mono ?_;rw[O bF];rintro e w4 ⟨rfl,rfl⟩;exact⟨upd f 4 (H sd),by simp[upd,g],zx (O qx) (O HD) (by decide) rfl⟩
    | 5,D =>
     cases D;have g1:f 1 = .agg #[H (next+1),.slice aq ll.length cq]:=hD 1 (yf X 1 rfl);have g4:f 4=H sd:=hD 4 (yf X 4 rfl);have cA:=n12' (by omega) (by omega);clear X hD xl;go_simp
     by_cases uF:sd=1
     ·subst uF;refine(lE (next+1) _ ll xh (O kM) (O kK).len (O aP)).mono ?_;rintro e w4 ⟨b,rfl,ht,uJ,xF⟩;exact⟨upd f 5 (fj b),by simp[upd,g1,g4],eX (O qx) (O HD) xF (by decide) (dq_grow cA xF) (fun _=>.inl ⟨rfl,b,rfl,ht⟩)⟩
     ·refine(ly (next+1) sd uF _ ll xh (O kM) (O kK).len (O aP)).mono ?_;rintro e w4 ⟨b,rfl,ht,uJ,xF⟩;exact⟨upd f 5 (fm b),by simp[upd,g1,g4],eX (O qx) (O HD) xF (by decide) (dq_grow cA xF) (fun _=>.inr ⟨uF,b,rfl,ht⟩)⟩
    | 6,D =>
     cases D;have cA:=n12' (by omega) (by omega);rcases hD 5 (yf X 5 rfl) cA with⟨uF,b,g5,ht⟩|⟨uF,b,g5,ht⟩
     ·subst uF;have HT:=U ht;have hfl:=field0_bm b xh;clear X hD xl ht;go_simp;exact⟨upd f 6 (.func (.func 166) #[h3 b 0] #[]),by simp[upd,g5],zx (O qx) (O HD) (by decide) (fun _=>.inl ⟨rfl,b,rfl,O HT⟩)⟩
     ·have HT:=U ht;have hfl:=field0_sm b xh;clear X hD xl ht;go_simp;exact⟨upd f 6 (.func (.func 170) #[h3 b 0] #[]),by simp[upd,g5],zx (O qx) (O HD) (by decide) (fun _=>.inr ⟨uF,b,rfl,O HT⟩)⟩
    | 7,D =>
     cases D;have cA:=n12' (by omega) (by omega);rcases hD 6 (yf X 6 rfl) cA with⟨uF,b,g6,ht⟩|⟨uF,b,g6,ht⟩
     ·subst uF;have HT:=U ht
      have HE:Hid (frOf (quOf true (zC ll 1)) = .tuple #[.agg (yx x.id x.side x.ticks x.left x.life x.tag).toArray,.bool fb]):=by
       show _ = _;have:=O bp;simpa using this
      clear X hD xl ht;go_simp;refine(front_b b 1 (zC ll 1) xh (O HT) (yO (List.length_filter_le _ _) (O kK).len)).mono ?_;rw[O HE];rintro e w4 ⟨rfl,xF⟩;exact⟨upd f 7 (.tuple #[.agg (yx x.id x.side x.ticks x.left x.life x.tag).toArray,.bool fb]),by simp[upd,g6],eX (O qx) (O HD) xF (by decide) (dq_grow cA xF) rfl⟩
     ·have HT:=U ht
      have HE:Hid (frOf (quOf false (zC ll sd)) = .tuple #[.agg (yx x.id x.side x.ticks x.left x.life x.tag).toArray,.bool fb]):=by
       have:=O bp;rw[decide_eq_false uF] at this;exact this
      clear X hD xl ht;go_simp;refine(front_s b sd (zC ll sd) xh (O HT) (yO (List.length_filter_le _ _) (O kK).len)).mono ?_;rw[O HE];rintro e w4 ⟨rfl,xF⟩;exact⟨upd f 7 (.tuple #[.agg (yx x.id x.side x.ticks x.left x.life x.tag).toArray,.bool fb]),by simp[upd,g6],eX (O qx) (O HD) xF (by decide) (dq_grow cA xF) rfl⟩
    | 8,D =>
     cases D;have g:f 7 = .tuple #[.agg (yx x.id x.side x.ticks x.left x.life x.tag).toArray,.bool fb]:=hD 7 (yf X 7 rfl);clear X hD xl;go_simp;exact⟨upd f 8 (.tuple #[.agg (yx x.id x.side x.ticks x.left x.life x.tag).toArray,.bool fb]),by simp[upd,g],zx (O qx) (O HD) (by decide) rfl⟩
    | 9,D =>
     cases D;have g:f 8 = .tuple #[.agg (yx x.id x.side x.ticks x.left x.life x.tag).toArray,.bool fb]:=hD 8 (yf X 8 rfl);clear X hD xl;go_simp;exact⟨upd f 9 (.agg (yx x.id x.side x.ticks x.left x.life x.tag).toArray),by simp[upd,g],zx (O qx) (O HD) (by decide) rfl⟩
    | 10,D =>
     cases D;have g:f 8 = .tuple #[.agg (yx x.id x.side x.ticks x.left x.life x.tag).toArray,.bool fb]:=hD 8 (yf X 8 rfl);clear X hD xl;go_simp;exact⟨upd f 10 (.bool fb),by simp[upd,g],zx (O qx) (O HD) (by decide) rfl⟩
    | 11,D =>
     cases D;have cA:=n12' (by omega) (by omega);clear X hD xl;go_simp;have xF:=mc xh (me (yx 0 0 0 0 0 ⟨#[]⟩).toArray 71);exact⟨upd f 11 (yq xh 0),by simp[upd],eX (O qx) (O HD) xF (by decide) (dq_grow cA xF) ⟨xh.heap.size,rfl,(O qx).size,fun _=>⟨zM xh (yx 0 0 0 0 0 ⟨#[]⟩) _,by rw[zi];omega⟩,fun h=>absurd h cA⟩⟩
    | 12,D =>
     cases D;have cA:¬ xx[12]? = some true:=by rw[xA];simp
     have g9:f 9 = .agg (yx x.id x.side x.ticks x.left x.life x.tag).toArray:=hD 9 (yf X 9 rfl);obtain⟨pb,jR,hpb,xU,-⟩:=hD 11 (yf X 11 rfl);obtain⟨xU,cf⟩:=xU cA;have pY:=U xU;obtain⟨u0,y0,q0⟩:=zN xU 0 (by omega);obtain⟨u1,y1,q1⟩:=zN xU 1 (by omega);obtain⟨u2,y2,q2⟩:=zN xU 2 (by omega);obtain⟨u3,y3,q3⟩:=zN xU 3 (by omega);obtain⟨u4,y4,q4⟩:=zN xU 4 (by omega);obtain⟨u5,y5,q5⟩:=zN xU 5 (by omega);simp only[Nat.zero_add] at y0 q0 y1 q1 y2 q2 y3 q3 y4 q4 y5 q5;clear X hD xl xU;go_simp;refine⟨upd f 12 M,by simp[upd,g9,jR],rgx_last (zj pb hpb (yx x.id x.side x.ticks x.left x.life x.tag) 0 xh (O qx)) (O HD) xA (fun j hj hxj h=>dq_last j hj h (fun hj11=>?_)) trivial⟩;subst hj11;refine⟨pb,jR,hpb,fun h=>absurd trivial h,fun _=>⟨?_,?_⟩⟩
     ·exact yY xh pb 0 (yx x.id x.side x.ticks x.left x.life x.tag) (fun j hj=>O pY j hj)
     ·show pb<(xh.setCells pb 0 (yx x.id x.side x.ticks x.left x.life x.tag)).heap.size;simp only[World.setCells,World.setCell,Array.size_modify];exact cf
    | 13,D =>
     cases D;have g:f 10 = .bool fb:=hD 10 (yf X 10 rfl);clear X hD xl;go_simp;exact⟨upd f 13 (.bool fb),by simp[upd,g],zx (O qx) (O HD) (by decide) rfl⟩
    | i+14,D=>simp at D
   ·have HFE:Hid (hg=(ll,lf,ts)):=mi_done (O hI) aZ
    have xU:wr.there (w.heap.size+1+1) 0 9:=fun j hj=>by
     have K:=(O hK).block (w.heap.size+1+1) (by have:=O jz;omega) (by have:=O jz;have:=O HMB;omega);have:=(O HX).2.2 j hj;rw[yR (a:=(Y (w.heap.size+1+1) (0+j))) K,World.frozen?_of_block (a:=(Y (w.heap.size+1+1) (0+j))) K];exact this
    have xr:=U (match_end (O hM) (O hK) (O xL) (O jz) (O HMB) [H (next+1),.slice aq ll.length cq,H next,H s,H (tk pr),H lf,H li,yl tg,.slice av ts.length cv] rfl xU);have c0:=(O hM).cells 0 _ rfl;have c1:=(O hM).cells 1 _ rfl;have c2:=(O hM).cells 2 _ rfl;have c3:=(O hM).cells 3 _ rfl;have c4:=(O hM).cells 4 _ rfl;have c5:=(O hM).cells 5 _ rfl;have c6:=(O hM).cells 6 _ rfl;have c7:=(O hM).cells 7 _ rfl;have c8:=(O hM).cells 8 _ rfl;simp only[Nat.zero_add] at c0 c1 c2 c3 c4 c5 c6 c7 c8;obtain⟨v0,z0,q0⟩:=zN xU 0 (by omega);obtain⟨v1,z1,q1⟩:=zN xU 1 (by omega);obtain⟨v2,z2,q2⟩:=zN xU 2 (by omega);obtain⟨v3,z3,q3⟩:=zN xU 3 (by omega);obtain⟨v4,z4,q4⟩:=zN xU 4 (by omega);obtain⟨v5,z5,q5⟩:=zN xU 5 (by omega);obtain⟨v6,z6,q6⟩:=zN xU 6 (by omega);obtain⟨v7,z7,q7⟩:=zN xU 7 (by omega);obtain⟨v8,z8,q8⟩:=zN xU 8 (by omega);simp only[Nat.zero_add] at z0 q0 z1 q1 z2 q2 z3 q3 z4 q4 z5 q5 z6 q6 z7 q7 z8 q8;clear xU;go_wp2_with fail
    try simp +zetaDelta only[Exit.noGoto_ret]
    change bodyPost _ _ _ _ _ (wr.setCells (w.heap.size+1+1) 0 [H (next+1),.slice aq ll.length cq,H next,H s,H (tk pr),H lf,H li,yl tg,.slice av ts.length cv]);generalize wr.setCells (w.heap.size+1+1) 0 [H (next+1),.slice aq ll.length cq,H next,H s,H (tk pr),H lf,H li,yl tg,.slice av ts.length cv]=WE at xr |-;obtain⟨d0,d1,d2,d3,d4,d5,d6,d7,d8⟩:=yF (O xr).1
    try simp only[Exit.inBlock,Exit.then]
    refine bodyPost_ret (by simp[results,Tryz.results203,go_sem,d0,d1,d2,d3,d4,d5,d6,d7,d8];try rfl) rfl ?_
    rw[O HFE];exact⟨_,_,rfl,(O xr).2.1,(O xr).2.2.1,(O xr).2.2.2⟩
 ·rintro x md V i op ⟨f,rfl,xl,hD⟩ xo hx D xA X
  have n8':i<8->¬ x[8]? = some true:=fun xK h8=>by
   have h7:=yh xo 8 rfl h8 7 rfl;have h6:=yh xo 8 rfl h8 6 rfl;have h5:=yh xo 6 rfl h6 5 rfl;have Z:=yh xo 6 rfl h6 1 rfl;have h0:=yh xo 1 rfl Z 0 rfl;have Q:=yh xo 5 rfl h5 2 rfl;have h4:=yh xo 5 rfl h5 4 rfl;have I:=yh xo 4 rfl h4 3 rfl
   have qW:∀j,j<8->x[j]? = some true:=fun j hj=>by
    rcases(by omega:j=0\/j=1\/j=2\/j=3\/j=4\/j=5\/j=6\/j=7) with rfl|rfl|rfl|rfl|rfl|rfl|rfl|rfl <;> assumption
   rw[qW i xK] at xA;cases xA
  clear xo;have xI:=U xl;have HD:=U hD;have qj:=U (zq (O jP) xl yb);have z0:=zf (O HX).1 xl (by omega) 0 _ rfl;have z1:=zf (O HX).1 xl (by omega) 1 _ rfl;have o0:=zf (O HX).2.1 xl (by omega) 0 _ rfl;have o1:=zf (O HX).2.1 xl (by omega) 1 _ rfl;have o2:=zf (O HX).2.1 xl (by omega) 2 _ rfl;have o3:=zf (O HX).2.1 xl (by omega) 3 _ rfl;have o4:=zf (O HX).2.1 xl (by omega) 4 _ rfl;have o5:=zf (O HX).2.1 xl (by omega) 5 _ rfl;rw[Nat.zero_add] at z0 z1 o0 o1 o2 o3 o4 o5;clear hw3
  match i,D with
  | 0,D =>
   cases D;clear X hD xl;go_simp;exact⟨upd f 0 (.agg #[H next,.slice a l.length cap]),by simp[upd],zx (O xI) (O HD) (by decide) rfl⟩
  | 1,D =>
   cases D;have g:f 0 = .agg #[H next,.slice a l.length cap]:=hD 0 (yf X 0 rfl);have n8:=n8' (by omega);clear X hD xl;go_simp;refine(copyBook_any next _ l V (O qj) hsl (by omega)).mono ?_;rintro e w4 ⟨v4,rfl,pQ,xF⟩;obtain⟨a4,c4,rfl⟩:=rd_lenF (zZ pQ (by omega));exact⟨upd f 1 (.agg #[H next,.slice a4 l.length c4]),by simp[upd,g],eX (O xI) (O HD) xF (by decide) (dm_grow n8 xF) ⟨a4,c4,rfl,fun _=>fM pQ (O xI).size⟩⟩
  | 2,D =>
   cases D;clear X hD xl;go_simp;exact⟨upd f 2 (.agg #[H s,H ty,H li,H qt,yk pr,yl tg]),by simp[upd],zx (O xI) (O HD) (by decide) rfl⟩
  | 3,D =>
   cases D;clear X hD xl;go_simp;exact⟨upd f 3 (yq w 0),by simp[upd],zx (O xI) (O HD) (by decide) rfl⟩
  | 4,D =>
   cases D;have g:f 3=yq w 0:=hD 3 (yf X 3 rfl);clear X hD xl;go_simp;exact⟨upd f 4 (H next),by simp[upd,g],zx (O xI) (O HD) (by decide) rfl⟩
  | 5,D =>
   cases D;have g2:f 2 = .agg #[H s,H ty,H li,H qt,yk pr,yl tg]:=hD 2 (yf X 2 rfl);have g4:f 4=H next:=hD 4 (yf X 4 rfl);have n8:=n8' (by omega);clear X hD xl;go_simp;refine(order_any ⟨kk,s,ty,li,qt,ii,pr,tg⟩ next V).mono ?_;rintro e w4 ⟨rfl,xF⟩;exact⟨upd f 5 (.agg (yx next s (tk pr) qt li tg).toArray),by simp[upd,g2,g4],eX (O xI) (O HD) xF (by decide) (dm_grow n8 xF) rfl⟩
  | 6,D =>
   cases D;obtain⟨a4,c4,g1,oi⟩:=hD 1 (yf X 1 rfl);have g5:f 5 = .agg (yx next s (tk pr) qt li tg).toArray:=hD 5 (yf X 5 rfl);have kc:=U oi;clear X hD xl oi;go_simp;exact⟨upd f 6 (.agg #[H next,.slice a4 l.length c4,H next,H s,H (tk pr),H qt,H li,yl tg,.slice none 0 0]),by simp[upd,g1,g5],zx (O xI) (O HD) (by decide) ⟨a4,c4,rfl,O kc⟩⟩
  | 7,D =>
   cases D;have n8:=n8' (by omega);clear X hD xl;go_simp;have xF:=mc V (me #[H 0,.slice none 0 0,H 0,H 0,H 0,H 0,H 0,yl ⟨#[]⟩,.slice none 0 0] 277);exact⟨upd f 7 (yq V 0),by simp[upd],eX (O xI) (O HD) xF (by decide) (dm_grow n8 xF) ⟨V.heap.size,rfl,(O xI).size,fun _=>⟨zM V [H 0,.slice none 0 0,H 0,H 0,H 0,H 0,H 0,yl ⟨#[]⟩,.slice none 0 0] _,_,heap_alloc_new V _⟩,fun h=>absurd h n8⟩⟩
  | 8,D =>
   cases D;have n8:¬ x[8]? = some true:=by rw[xA];simp
   obtain⟨a4,c4,g6,kO⟩:=hD 6 (yf X 6 rfl);obtain⟨mb,g7,hmb,xU,-⟩:=hD 7 (yf X 7 rfl);obtain⟨xU,vL⟩:=xU n8;have HO6:=U (kO n8);have pY:=U xU;have qx:=U vL;obtain⟨u0,y0,q0⟩:=zN xU 0 (by omega);obtain⟨u1,y1,q1⟩:=zN xU 1 (by omega);obtain⟨u2,y2,q2⟩:=zN xU 2 (by omega);obtain⟨u3,y3,q3⟩:=zN xU 3 (by omega);obtain⟨u4,y4,q4⟩:=zN xU 4 (by omega);obtain⟨u5,y5,q5⟩:=zN xU 5 (by omega);obtain⟨u6,y6,q6⟩:=zN xU 6 (by omega);obtain⟨u7,y7,q7⟩:=zN xU 7 (by omega);obtain⟨u8,y8,q8⟩:=zN xU 8 (by omega);simp only[Nat.zero_add] at y0 q0 y1 q1 y2 q2 y3 q3 y4 q4 y5 q5 y6 q6 y7 q7 y8 q8;clear X hD xl kO xU vL;go_simp;refine⟨upd f 8 M,by simp[upd,g6,g7],rgx_last (zj mb hmb [H next,.slice a4 l.length c4,H next,H s,H (tk pr),H qt,H li,yl tg,.slice none 0 0] 0 V (O xI)) (O HD) xA (fun j hj hxj h=>dm_last j hj h (fun hj7=>?_)) trivial⟩;subst hj7;refine⟨mb,g7,hmb,fun h=>absurd trivial h,fun _=>⟨a4,c4,?_⟩⟩;exact matS_made (c:=⟨kk,s,ty,li,qt,ii,pr,tg⟩) (O pY) (O qx) (O HO6) (by have:=(O xI).size;omega)
  | i+9,D=>simp at D
def idR (l:List Od)(id:Int):Int:=if plc l id<0 then 9 else 0
def redR (l:List Od)(id qty:Int):Int:=if betB qty 1 1000000=true then(if plc l id<0 then 9 else match l[(plc l id).toNat]? with|some o=>if o.left<=qty then 10 else 0|none=>0) else 7
theorem iH (l:List Od)(id:Int):plc l id = -1 \/ ∃(k:Nat) (o:Od),plc l id=k/\l[k]? = some o:=by
 rcases plcF_spec id l 0 with⟨Z,_⟩|⟨i,o,Z,Q,_⟩
 ·exact .inl Z
 ·exact .inr ⟨i,o,by rw[plc,Z];congr 1;omega,Q⟩
theorem idRefusal_any (next:Int)(v:Value)(l:List Od)(id:Int)(w:World)(hr:RdR Od.vs 6 w v l) :
  Calls Tryz.prog 144 #[.agg #[H next,v],H id] w fun e w'=>e=yn (H (idR l id))/\yp w w':=by
 have HR:=U hr;obtain⟨a,cap,rfl,xC,hc⟩:=hr;have vf:Hid (yp w (w.alloc (me #[H next,.slice a l.length cap] 31))):=mc _ _;clear hc;go_enter Tryz.func144,Tryz.ntmps144;go_wp2_with fail;refine(iW next _ l id _ (zq (O HR) (O vf) yb)).mono ?_;rintro e w3 ⟨rfl,xV⟩;have xL:=U (mf (O vf) xV);clear xV
 by_cases hp:plc l id<0
 ·have HK:Hid (idR l id=9):=if_pos hp;go_wp2_with fail;go_ret;exact⟨zt (O HK).symm,O xL⟩
 ·have HK:Hid (idR l id=0):=if_neg hp;go_wp2_with fail;go_ret;exact⟨zt (O HK).symm,O xL⟩
theorem fY {c:Cm}{id:Int}:∀(n:Nat) (l:List Od) (left:Int) (ts:List Ev),GoodL l->0<=left->left<=1000000->GoodL (matL c id n l left ts).1/\0<=(matL c id n l left ts).2.1/\(matL c id n l left ts).2.1<=1000000
 | 0,l,left,ts,h,h0,Z=>⟨h,h0,Z⟩
 | n+1,l,left,ts,h,h0,Z=>by
  rw[matL]
  by_cases hl:0<left
  ·rw[if_pos hl];cases hf:dv l (othS c.s) with
   | none=>exact⟨h,h0,Z⟩
   | some o =>
    simp only
    by_cases hm:dL c o=true
    ·rw[if_pos hm];obtain⟨un,_⟩:=fL hf;obtain⟨k,E⟩:=List.getElem?_of_mem un;have D:=h.left o un;rw[fd h.rise E,Int.toNat_natCast];exact fY n _ _ _ (eT h E (by omega) (by omega)).1 (by omega) (by omega)
    ·rw[if_neg hm];exact⟨h,h0,Z⟩
  ·rw[if_neg hl];exact⟨h,h0,Z⟩
def matR (next:Int)(c:Cm)(hg:List Od × Int × List Ev):Int:=
 if c.t=5/\0<hg.2.2.length then 11 else if c.t=4/\0<hg.2.1 then 12 else if next=1000000 then 13
 else if dj c.t=true/\0<hg.2.1 then(if eA (hg.1 ++ [{ ordO c next with left:=hg.2.1 }])=true then 13 else 0) else 0
theorem below_kept {B0 B mb:Nat}{w W W':World}(h:Below B0 w W)(E:KeptBut mb B W W')(hB:B0<=B)(hm:B<=mb):Below B0 w W':=
 ⟨E.os.trans h.os,E.tape.trans h.tape,E.output.trans h.output,yO h.size E.size,fun k xK=>(E.block k (by omega) (by omega)).trans (h.block k xK)⟩
theorem lT (next:Int)(vb:Value)(l:List Od)(c:Cm)(w:World)(hr:RdR Od.vs 6 w vb l)(hs:SlOk vb)(F:GoodL l)(h0:0<=next)(Z:next<=1000000)(aE:0<=c.q)(aG:c.q<=1000000) :
  Calls Tryz.prog 181 #[.agg #[H next,vb],noV c] w fun e w'=>e=yn (H (matR next c (matL c next 21 l c.q [])))/\yp w w':=by
 have HR:=U hr;have HG:=U F;have qJ:=U hs;have HFG:=U (fY (c:=c) (id:=next) 21 l c.q [] F aE aG);have vN:Hid (0<=next/\next<=1000000/\0<=c.q/\c.q<=1000000):=⟨h0,Z,aE,aG⟩;obtain⟨a,cap,rfl,xC,hc⟩:=hr;clear hc F hs h0 Z aE aG xC;obtain⟨kk,s,ty,li,qt,ii,pr,tg⟩:=c;have HCA:Hid (∀W:World,RdR Od.vs 6 W (.slice a l.length cap) l->Calls Tryz.prog 203 #[.agg #[H next,.slice a l.length cap],.agg #[H s,H ty,H li,H qt,yk pr,yl tg]] W _):=fun W hW=>match_any next _ l ⟨kk,s,ty,li,qt,ii,pr,tg⟩ W hW (O qJ) (O HG) (O vN).1 (O vN).2.1 (O vN).2.2.1 (O vN).2.2.2
 generalize matL ⟨kk,s,ty,li,qt,ii,pr,tg⟩ next 21 l qt []=hg at HFG HCA |-;obtain⟨FL,Fl,Ft⟩:=hg;unfold noV;simp only at *;have xG:=zi w (me #[H next,.slice a l.length cap] 31);have ug:((w.alloc (me #[H next,.slice a l.length cap] 31)).alloc (me #[H s,H ty,H li,H qt,yk pr,yl tg] 142)).heap.size=w.heap.size+1+1:=by rw[zi,xG]
 have r1:=zm w [H next,.slice a l.length cap] 31;have r2:=zm (w.alloc (me #[H next,.slice a l.length cap] 31)) [H s,H ty,H li,H qt,yk pr,yl tg] 142;rw[xG] at r2;have qE:Below (w.heap.size+1) (w.alloc (me #[H next,.slice a l.length cap] 31)) ((w.alloc (me #[H next,.slice a l.length cap] 31)).alloc (me #[H s,H ty,H li,H qt,yk pr,yl tg] 142)):=(Below.refl _ _).alloc (by rw[xG];omega) _;have xz:Hid (yp w ((w.alloc (me #[H next,.slice a l.length cap] 31)).alloc (me #[H s,H ty,H li,H qt,yk pr,yl tg] 142))):=(mc _ _).alloc (by rw[xG];omega) _;have HX:Hid (_/\_):=⟨zf r1 qE (by omega),r2⟩;have xZ:=U ug;clear xG ug r1 r2 qE;go_enter Tryz.func181,Tryz.ntmps181;refine mg fun hb xw=>?_;go_wp2_with fail;refine O xw _ _ ?_;clear xw;refine mg fun K2 kL=>?_;go_wp2_with fail;generalize ((w.alloc (me #[H next,.slice a l.length cap] 31)).alloc (me #[H s,H ty,H li,H qt,yk pr,yl tg] 142))=X2 at xz HX xZ |-;have HX:Hid (X2.rangeAt w.heap.size 0 [H next,.slice a l.length cap]/\X2.rangeAt (w.heap.size+1) 0 [H s,H ty,H li,H qt,yk pr,yl tg]):=O HX;refine(O HCA X2 (zq (O HR) (O xz) yb)).mono ?_;rintro e w4 ⟨vq,vt,rfl,hoq,het,xF⟩
 obtain⟨av,cv,rfl⟩:∃a c,vt = .slice a Ft.length c:=by
  rcases het.2 with⟨e,e2⟩|⟨g,cap,xt,e,_⟩
  ·exact⟨none,0,by rw[e,e2]⟩
  ·exact⟨_,_,e⟩
 obtain⟨aq,cq,rfl⟩:∃a c,vq = .slice a FL.length c:=by
  rcases hoq.2 with⟨e,e2⟩|⟨g,cap,xt,e,_⟩
  ·exact⟨none,0,by rw[e,e2]⟩
  ·exact⟨_,_,e⟩
 have kC:=mc w4 (me #[H (next+1),.slice aq FL.length cq,H next,H s,H (tk pr),H Fl,H li,yl tg,.slice av Ft.length cv] 277);have HMS:Hid (MatS w4.heap.size X2.heap.size (w4.alloc (me #[H (next+1),.slice aq FL.length cq,H next,H s,H (tk pr),H Fl,H li,yl tg,.slice av Ft.length cv] 277)) (next+1) (.slice aq FL.length cq) FL ⟨next,s,tk pr,Fl,li,tg⟩ (.slice av Ft.length cv) Ft):=⟨zm w4 [H (next+1),.slice aq FL.length cq,H next,H s,H (tk pr),H Fl,H li,yl tg,.slice av Ft.length cv] _,zM w4 [H (next+1),.slice aq FL.length cq,H next,H s,H (tk pr),H Fl,H li,yl tg,.slice av Ft.length cv] _,zn hoq kC,zO het kC,⟨_,heap_alloc_new w4 _⟩,yO xF.size (by rw[zi];omega)⟩;have qS:Hid (yp X2 (w4.alloc (me #[H (next+1),.slice aq FL.length cq,H next,H s,H (tk pr),H Fl,H li,yl tg,.slice av Ft.length cv] 277))):=xF.trans (kC.mono xF.size);have HMB:Hid (w.heap.size<=X2.heap.size/\X2.heap.size<=w4.heap.size):=⟨by have:=O xZ;omega,xF.size⟩;clear kC hoq het xF;go_wp2_with fail;refine O kL _ _ ?_;generalize (w4.alloc (me #[H (next+1),.slice aq FL.length cq,H next,H s,H (tk pr),H Fl,H li,yl tg,.slice av Ft.length cv] 277))=W6 at HMS qS |-;generalize w4.heap.size=mb at HMS HMB |-;have hm:w.heap.size+1<X2.heap.size:=by have:=O xZ;omega
 have k0:=zf (O HX).1 (O qS) (by omega) 0 _ rfl;have o0:=zf (O HX).2 (O qS) (by omega) 0 _ rfl;have o1:=zf (O HX).2 (O qS) (by omega) 1 _ rfl;have o2:=zf (O HX).2 (O qS) (by omega) 2 _ rfl;have o3:=zf (O HX).2 (O qS) (by omega) 3 _ rfl;have o4:=zf (O HX).2 (O qS) (by omega) 4 _ rfl;have o5:=zf (O HX).2 (O qS) (by omega) 5 _ rfl;have y5:W6.cell? (Y mb 5)=some (H Fl):=(O HMS).cells 5 _ rfl;have y8:W6.cell? (Y mb 8)=some (.slice av Ft.length cv):=(O HMS).cells 8 _ rfl;simp only[Nat.zero_add] at k0 o0 o1 o2 o3 o4 o5;have uZ:=U ((O xz).trans ((O qS).mono (O xz).size));have HMR:Hid (matR next ⟨kk,s,ty,li,qt,ii,pr,tg⟩ (FL,Fl,Ft)=if ty=5/\0<Ft.length then 11 else if ty=4/\0<Fl then 12 else if next=1000000 then 13 else if dj ty=true/\0<Fl then(if eA (FL ++ [⟨next,s,tk pr,Fl,li,tg⟩])=true then 13 else 0) else 0):=rfl
 clear HCA HX kL
 by_cases jS:ty=5/\0<Ft.length
 ·obtain⟨rfl,hl⟩:=jS;have hl':(0:Int)<Ft.length:=by omega
  have HK:Hid (matR next ⟨kk,s,5,li,qt,ii,pr,tg⟩ (FL,Fl,Ft)=11):=by have:=O HMR;rw[if_pos ⟨rfl,hl⟩] at this;exact this
  clear hl;go_wp2_with fail;go_ret;exact⟨zt (O HK).symm,O uZ⟩
 have HM1:Hid (_ = _):=(O HMR).trans (if_neg jS);clear HMR
 by_cases h5:ty=5
 ·subst h5;have hl':¬ (0:Int)<Ft.length:=fun h=>jS ⟨rfl,by omega⟩;have kw:Hid (_ = _):=(O HM1).trans (if_neg (fun h=>by cases h.1));clear HM1;clear jS
  by_cases qu:next=1000000
  ·subst qu;have HK:Hid (matR 1000000 ⟨kk,s,5,li,qt,ii,pr,tg⟩ (FL,Fl,Ft)=13):=by have:=O kw;rw[if_pos rfl] at this;exact this
   go_wp2_with fail;go_ret;exact⟨zt (O HK).symm,O uZ⟩
  have hnb:(next==1000000)=false:=by rw[xe];exact qu
  have pq:Hid (_ = _):=(O kw).trans (if_neg qu);clear qu kw;go_wp2_with fail;refine(iI ⟨kk,s,5,li,qt,ii,pr,tg⟩ W6).mono ?_;rintro e w7 ⟨rfl,qQ⟩;dsimp only;have HM7:=U (iX (O HMS) qQ);have jA:=U (mf (O uZ) qQ);have y7:w7.cell? (Y mb 5)=some (H Fl):=(O HM7).cells 5 _ rfl;clear qQ k0 o0 o1 o2 o3 o4 o5 y5 y8;cases oo:dj 5
  ·have HK:Hid (matR next ⟨kk,s,5,li,qt,ii,pr,tg⟩ (FL,Fl,Ft)=0):=by
    have:=O pq;rw[if_neg (fun h=>by rw[oo] at h;cases h.1)] at this;exact this
   clear oo;go_wp2_with fail;go_ret;exact⟨zt (O HK).symm,O jA⟩
  ·by_cases kg:0<Fl
   ·have HMRG:Hid (matR next ⟨kk,s,5,li,qt,ii,pr,tg⟩ (FL,Fl,Ft)=if eA (FL ++ [⟨next,s,tk pr,Fl,li,tg⟩])=true then 13 else 0):=by
     have:=O pq;rw[if_pos ⟨oo,kg⟩] at this;exact this
    clear oo;go_wp2_with fail;refine(rest_any mb X2.heap.size (next+1) _ FL ⟨next,s,tk pr,Fl,li,tg⟩ _ Ft w7 (O HM7) (by have:=(O HFG).1.len;omega)).mono ?_;rintro e w8 ⟨vq8,rfl,hM8,hK8⟩;have HM8:=U hM8;have oP:=U (below_kept (O jA) hK8 (O HMB).1 (O HMB).2);clear hM8 hK8 y7;go_wp2_with fail
    refine(isTooFull_any mb X2.heap.size (next+1) vq8 _ ⟨next,s,tk pr,Fl,li,tg⟩ _ Ft w8 (O HM8) (by have:=(O HFG).1.len;rw[yQ];simp only[List.length_cons,List.length_nil];omega) (by
     intro o' qe;have hfg:=O HFG;rcases List.mem_append.1 qe with h|h
     ·have:=hfg.1.left o' h;omega
     ·rw[List.mem_singleton] at h;subst h;exact hfg.2)).mono ?_
    rintro e w9 ⟨rfl,hb9⟩;have jh:=U (mf (O oP) hb9);clear hb9;cases hfu:eA (FL ++ [⟨next,s,tk pr,Fl,li,tg⟩])
    ·have HK:Hid (matR next ⟨kk,s,5,li,qt,ii,pr,tg⟩ (FL,Fl,Ft)=0):=by have:=O HMRG;rw[hfu] at this;exact this
     clear hfu;go_wp2_with fail;go_ret;exact⟨zt (O HK).symm,O jh⟩
    ·have HK:Hid (matR next ⟨kk,s,5,li,qt,ii,pr,tg⟩ (FL,Fl,Ft)=13):=by have:=O HMRG;rw[hfu] at this;exact this
     clear hfu;go_wp2_with fail;go_ret;exact⟨zt (O HK).symm,O jh⟩
   ·have HK:Hid (matR next ⟨kk,s,5,li,qt,ii,pr,tg⟩ (FL,Fl,Ft)=0):=by have:=O pq;rw[if_neg (fun h=>kg h.2)] at this;exact this
    clear oo;go_wp2_with fail;go_ret;exact⟨zt (O HK).symm,O jA⟩
 have uj:(ty==5)=false:=by rw[xe];exact h5
 clear jS
 by_cases qP:ty=4/\0<Fl
 ·obtain⟨rfl,hl⟩:=qP;have HK:Hid (matR next ⟨kk,s,4,li,qt,ii,pr,tg⟩ (FL,Fl,Ft)=12):=by have:=O HM1;rw[if_pos ⟨rfl,hl⟩] at this;exact this
  clear h5 uj;go_wp2_with fail;go_ret;exact⟨zt (O HK).symm,O uZ⟩
 have kw:Hid (_ = _):=(O HM1).trans (if_neg qP);clear HM1
 by_cases h4:ty=4
 ·subst h4;have hl':¬ 0<Fl:=fun h=>qP ⟨rfl,h⟩;clear qP h5 uj
  by_cases qu:next=1000000
  ·subst qu;have HK:Hid (matR 1000000 ⟨kk,s,4,li,qt,ii,pr,tg⟩ (FL,Fl,Ft)=13):=by have:=O kw;rw[if_pos rfl] at this;exact this
   go_wp2_with fail;go_ret;exact⟨zt (O HK).symm,O uZ⟩
  have hnb:(next==1000000)=false:=by rw[xe];exact qu
  have pq:Hid (_ = _):=(O kw).trans (if_neg qu);clear qu kw;go_wp2_with fail;refine(iI ⟨kk,s,4,li,qt,ii,pr,tg⟩ W6).mono ?_;rintro e w7 ⟨rfl,qQ⟩;dsimp only;have HM7:=U (iX (O HMS) qQ);have jA:=U (mf (O uZ) qQ);have y7:w7.cell? (Y mb 5)=some (H Fl):=(O HM7).cells 5 _ rfl;clear qQ k0 o0 o1 o2 o3 o4 o5 y5 y8;cases oo:dj 4
  ·have HK:Hid (matR next ⟨kk,s,4,li,qt,ii,pr,tg⟩ (FL,Fl,Ft)=0):=by
    have:=O pq;rw[if_neg (fun h=>by rw[oo] at h;cases h.1)] at this;exact this
   clear oo;go_wp2_with fail;go_ret;exact⟨zt (O HK).symm,O jA⟩
  ·exact absurd oo (by decide)
 have xF:(ty==4)=false:=by rw[xe];exact h4
 clear qP h5 h4
 by_cases qu:next=1000000
 ·subst qu;have HK:Hid (matR 1000000 ⟨kk,s,ty,li,qt,ii,pr,tg⟩ (FL,Fl,Ft)=13):=by have:=O kw;rw[if_pos rfl] at this;exact this
  go_wp2_with fail;go_ret;exact⟨zt (O HK).symm,O uZ⟩
 have hnb:(next==1000000)=false:=by rw[xe];exact qu
 have pq:Hid (_ = _):=(O kw).trans (if_neg qu);clear qu kw;go_wp2_with fail;refine(iI ⟨kk,s,ty,li,qt,ii,pr,tg⟩ W6).mono ?_;rintro e w7 ⟨rfl,qQ⟩;dsimp only;have HM7:=U (iX (O HMS) qQ);have jA:=U (mf (O uZ) qQ);have y7:w7.cell? (Y mb 5)=some (H Fl):=(O HM7).cells 5 _ rfl;clear qQ k0 o0 o1 o2 o3 o4 o5 y5 y8;cases oo:dj ty
 ·have HK:Hid (matR next ⟨kk,s,ty,li,qt,ii,pr,tg⟩ (FL,Fl,Ft)=0):=by
   have:=O pq;rw[if_neg (fun h=>by rw[oo] at h;cases h.1)] at this;exact this
  clear oo;go_wp2_with fail;go_ret;exact⟨zt (O HK).symm,O jA⟩
 ·by_cases kg:0<Fl
  ·have HMRG:Hid (matR next ⟨kk,s,ty,li,qt,ii,pr,tg⟩ (FL,Fl,Ft)=if eA (FL ++ [⟨next,s,tk pr,Fl,li,tg⟩])=true then 13 else 0):=by
    have:=O pq;rw[if_pos ⟨oo,kg⟩] at this;exact this
   clear oo;go_wp2_with fail;refine(rest_any mb X2.heap.size (next+1) _ FL ⟨next,s,tk pr,Fl,li,tg⟩ _ Ft w7 (O HM7) (by have:=(O HFG).1.len;omega)).mono ?_;rintro e w8 ⟨vq8,rfl,hM8,hK8⟩;have HM8:=U hM8;have oP:=U (below_kept (O jA) hK8 (O HMB).1 (O HMB).2);clear hM8 hK8 y7;go_wp2_with fail
   refine(isTooFull_any mb X2.heap.size (next+1) vq8 _ ⟨next,s,tk pr,Fl,li,tg⟩ _ Ft w8 (O HM8) (by have:=(O HFG).1.len;rw[yQ];simp only[List.length_cons,List.length_nil];omega) (by
    intro o' qe;have hfg:=O HFG;rcases List.mem_append.1 qe with h|h
    ·have:=hfg.1.left o' h;omega
    ·rw[List.mem_singleton] at h;subst h;exact hfg.2)).mono ?_
   rintro e w9 ⟨rfl,hb9⟩;have jh:=U (mf (O oP) hb9);clear hb9;cases hfu:eA (FL ++ [⟨next,s,tk pr,Fl,li,tg⟩])
   ·have HK:Hid (matR next ⟨kk,s,ty,li,qt,ii,pr,tg⟩ (FL,Fl,Ft)=0):=by have:=O HMRG;rw[hfu] at this;exact this
    clear hfu;go_wp2_with fail;go_ret;exact⟨zt (O HK).symm,O jh⟩
   ·have HK:Hid (matR next ⟨kk,s,ty,li,qt,ii,pr,tg⟩ (FL,Fl,Ft)=13):=by have:=O HMRG;rw[hfu] at this;exact this
    clear hfu;go_wp2_with fail;go_ret;exact⟨zt (O HK).symm,O jh⟩
  ·have HK:Hid (matR next ⟨kk,s,ty,li,qt,ii,pr,tg⟩ (FL,Fl,Ft)=0):=by have:=O pq;rw[if_neg (fun h=>kg h.2)] at this;exact this
   clear oo;go_wp2_with fail;go_ret;exact⟨zt (O HK).symm,O jA⟩
def lifW (c:Cm):Bool:=!betB c.l 0 1||(decide (c.l=1) && !dj c.t)
def newR (next:Int)(l:List Od)(c:Cm):Int:=
 if betB c.s 1 2=false then 3 else if betB c.t 1 5=false then 4 else if lifW c=true then 5 else if prcB c=false then 6 else if betB c.q 1 1000000=false then 7 else if tagB c.g=false then 8 else matR next c (matL c next 21 l c.q [])
theorem newRefusal_any (next:Int)(vb:Value)(l:List Od)(c:Cm)(w:World)(hr:RdR Od.vs 6 w vb l)(hs:SlOk vb)(F:GoodL l)(h0:0<=next)(Z:next<=1000000)(ht:c.g.size<=maxLen) :
  Calls Tryz.prog 143 #[.agg #[H next,vb],noV c] w fun e w'=>e=yn (H (newR next l c))/\yp w w':=by
 have HR:=U hr;have HG:=U F;have qJ:=U hs;have vN:Hid (0<=next/\next<=1000000):=⟨h0,Z⟩;have pX:=U ht;obtain⟨a,cap,rfl,xC,hc⟩:=hr;clear hc F hs h0 Z ht xC;generalize qk:newR next l c=res;have HN0:Hid (_ = res):=qk;clear qk;obtain⟨kk,s,ty,li,qt,ii,pr,tg⟩:=c;unfold newR at HN0;unfold noV;simp only at *;have xG:=zi w (me #[H next,.slice a l.length cap] 31);have ug:((w.alloc (me #[H next,.slice a l.length cap] 31)).alloc (me #[H s,H ty,H li,H qt,yk pr,yl tg] 142)).heap.size=w.heap.size+1+1:=by rw[zi,xG]
 have r1:=zm w [H next,.slice a l.length cap] 31;have r2:=zm (w.alloc (me #[H next,.slice a l.length cap] 31)) [H s,H ty,H li,H qt,yk pr,yl tg] 142;rw[xG] at r2;have qE:Below (w.heap.size+1) (w.alloc (me #[H next,.slice a l.length cap] 31)) ((w.alloc (me #[H next,.slice a l.length cap] 31)).alloc (me #[H s,H ty,H li,H qt,yk pr,yl tg] 142)):=(Below.refl _ _).alloc (by rw[xG];omega) _;have xz:Hid (yp w ((w.alloc (me #[H next,.slice a l.length cap] 31)).alloc (me #[H s,H ty,H li,H qt,yk pr,yl tg] 142))):=(mc _ _).alloc (by rw[xG];omega) _;have HX:Hid (_/\_):=⟨zf r1 qE (by omega),r2⟩;have uz:Hid (w.heap.size<((w.alloc (me #[H next,.slice a l.length cap] 31)).alloc (me #[H s,H ty,H li,H qt,yk pr,yl tg] 142)).heap.size/\w.heap.size+1<((w.alloc (me #[H next,.slice a l.length cap] 31)).alloc (me #[H s,H ty,H li,H qt,yk pr,yl tg] 142)).heap.size):=⟨by omega,by omega⟩;clear xG ug r1 r2 qE;go_enter Tryz.func143,Tryz.ntmps143;refine mg fun hb xw=>?_;go_wp2_with fail;refine O xw _ _ ?_;clear xw;generalize ((w.alloc (me #[H next,.slice a l.length cap] 31)).alloc (me #[H s,H ty,H li,H qt,yk pr,yl tg] 142))=X2 at xz HX uz |-;have HX:Hid (X2.rangeAt w.heap.size 0 [H next,.slice a l.length cap]/\X2.rangeAt (w.heap.size+1) 0 [H s,H ty,H li,H qt,yk pr,yl tg]):=O HX;have k0:=zf (O HX).1 (Below.refl _ _) (O uz).1 0 _ rfl;have k1:=zf (O HX).1 (Below.refl _ _) (O uz).1 1 _ rfl;have o0:=zf (O HX).2 (Below.refl _ _) (O uz).2 0 _ rfl;have o1:=zf (O HX).2 (Below.refl _ _) (O uz).2 1 _ rfl;have o2:=zf (O HX).2 (Below.refl _ _) (O uz).2 2 _ rfl;have o3:=zf (O HX).2 (Below.refl _ _) (O uz).2 3 _ rfl;have o4:=zf (O HX).2 (Below.refl _ _) (O uz).2 4 _ rfl;have o5:=zf (O HX).2 (Below.refl _ _) (O uz).2 5 _ rfl;simp only[Nat.zero_add] at k0 k1 o0 o1 o2 o3 o4 o5;go_wp2_with fail;refine(isSide_any s X2).mono ?_;rintro e w' ⟨rfl,rfl⟩;cases I:betB s 1 2
 ·have HK:Hid (3=res):=by have:=O HN0;rw[if_pos I] at this;exact this
  clear I;go_wp2_with fail;go_ret;exact⟨zt (O HK),O xz⟩
 have cJ:Hid (_ = res):=(if_neg (fun h=>by rw[I] at h;cases h)).symm.trans (O HN0);clear I HN0;go_wp2_with fail;refine(isType_any ty w').mono ?_;rintro e w1 ⟨rfl,rfl⟩;cases h4:betB ty 1 5
 ·have HK:Hid (4=res):=by have:=O cJ;rw[if_pos h4] at this;exact this
  clear h4;go_wp2_with fail;go_ret;exact⟨zt (O HK),O xz⟩
 have HN2:Hid (_ = res):=(if_neg (fun h=>by rw[h4] at h;cases h)).symm.trans (O cJ);clear h4 cJ;go_wp2_with fail;refine(isLife_any li w1).mono ?_;rintro e w2 ⟨rfl,rfl⟩;cases h5:betB li 0 1
 ·have HK:Hid (5=res):=by have:=O HN2;rw[if_pos (by simp[lifW,h5])] at this;exact this
  clear h5;go_wp2_with fail;go_ret;exact⟨zt (O HK),O xz⟩
 by_cases hli:li=1
 ·subst hli;go_wp2_with fail;refine(iI ⟨kk,s,ty,1,qt,ii,pr,tg⟩ w2).mono ?_;rintro e w3 ⟨rfl,xV⟩;dsimp only;have xI:=U xV;clear xV k0 k1 o0 o1 o2 o3 o4 o5;cases h6:dj ty
  ·have HK:Hid (5=res):=by have:=O HN2;rw[if_pos (by simp[lifW,h6])] at this;exact this
   clear h6 h5;go_wp2_with fail;go_ret;exact⟨zt (O HK),(O xz).trans ((O xI).mono (O xz).size)⟩
  have bz:Hid (_ = res):=(if_neg (by simp[lifW,h5,h6])).symm.trans (O HN2);clear h5 h6 HN2;have k0:=zf (O HX).1 (O xI) (O uz).1 0 _ rfl;have k1:=zf (O HX).1 (O xI) (O uz).1 1 _ rfl;have o0:=zf (O HX).2 (O xI) (O uz).2 0 _ rfl;have o1:=zf (O HX).2 (O xI) (O uz).2 1 _ rfl;have o2:=zf (O HX).2 (O xI) (O uz).2 2 _ rfl;have o3:=zf (O HX).2 (O xI) (O uz).2 3 _ rfl;have o4:=zf (O HX).2 (O xI) (O uz).2 4 _ rfl;have o5:=zf (O HX).2 (O xI) (O uz).2 5 _ rfl;simp only[Nat.zero_add] at k0 k1 o0 o1 o2 o3 o4 o5;go_wp2_with fail;refine(hasPrice_any ⟨kk,s,ty,1,qt,ii,pr,tg⟩ w3).mono ?_;rintro e w4 ⟨rfl,xF⟩;have xQ:=U (mf (O xI) xF);clear xF k0 k1 o0 o1 o2 o3 o4 o5 xI;cases h7:prcB ⟨kk,s,ty,1,qt,ii,pr,tg⟩
  ·have HK:Hid (6=res):=by have:=O bz;rw[if_pos h7] at this;exact this
   clear h7;go_wp2_with fail;go_ret;exact⟨zt (O HK),(O xz).trans ((O xQ).mono (O xz).size)⟩
  have HN4:Hid (_ = res):=(if_neg (fun h=>by rw[h7] at h;cases h)).symm.trans (O bz);clear h7 bz;have k0:=zf (O HX).1 (O xQ) (O uz).1 0 _ rfl;have k1:=zf (O HX).1 (O xQ) (O uz).1 1 _ rfl;have o0:=zf (O HX).2 (O xQ) (O uz).2 0 _ rfl;have o1:=zf (O HX).2 (O xQ) (O uz).2 1 _ rfl;have o2:=zf (O HX).2 (O xQ) (O uz).2 2 _ rfl;have o3:=zf (O HX).2 (O xQ) (O uz).2 3 _ rfl;have o4:=zf (O HX).2 (O xQ) (O uz).2 4 _ rfl;have o5:=zf (O HX).2 (O xQ) (O uz).2 5 _ rfl;simp only[Nat.zero_add] at k0 k1 o0 o1 o2 o3 o4 o5;go_wp2_with fail;refine(isQty_any qt w4).mono ?_;rintro e w5 ⟨rfl,rfl⟩;cases h8:betB qt 1 1000000
  ·have HK:Hid (7=res):=by have:=O HN4;rw[if_pos h8] at this;exact this
   clear h8;go_wp2_with fail;go_ret;exact⟨zt (O HK),(O xz).trans ((O xQ).mono (O xz).size)⟩
  have HN5:Hid (_ = res):=(if_neg (fun h=>by rw[h8] at h;cases h)).symm.trans (O HN4)
  have HQB:Hid (0<=qt/\qt<=1000000):=by
   simp only[betB,xf,xg] at h8;exact⟨by omega,h8.2⟩
  clear h8 HN4;go_wp2_with fail;refine(isTag_any tg w5 (O pX)).mono ?_;rintro e w6 ⟨rfl,rfl⟩;cases h9:tagB tg
  ·have HK:Hid (8=res):=by have:=O HN5;rw[if_pos h9] at this;exact this
   clear h9;go_wp2_with fail;go_ret;exact⟨zt (O HK),(O xz).trans ((O xQ).mono (O xz).size)⟩
  have HN6:Hid (_ = res):=(if_neg (fun h=>by rw[h9] at h;cases h)).symm.trans (O HN5);clear h9 HN5;go_wp2_with fail;refine(lT next _ l ⟨kk,s,ty,1,qt,ii,pr,tg⟩ w6 (zq (O HR) ((O xz).trans ((O xQ).mono (O xz).size)) yb) (O qJ) (O HG) (O vN).1 (O vN).2 (O HQB).1 (O HQB).2).mono ?_;dsimp only;rw[O HN6];rintro e w7 ⟨rfl,qQ⟩;have jA:=U (((O xz).trans ((O xQ).mono (O xz).size)).trans (qQ.mono ((O xz).trans ((O xQ).mono (O xz).size)).size));clear qQ;go_wp2_with fail;go_ret;exact⟨rfl,O jA⟩
 have hlb:(li==1)=false:=by rw[xe];exact hli
 have bz:Hid (_ = res):=(if_neg (by simp[lifW,h5,hli])).symm.trans (O HN2);have xI:Hid (yp w2 w2):=Below.refl _ _;clear h5 hli HN2;go_wp2_with fail;refine(hasPrice_any ⟨kk,s,ty,li,qt,ii,pr,tg⟩ w2).mono ?_;rintro e w4 ⟨rfl,xF⟩;have xQ:=U (mf (O xI) xF);clear xF k0 k1 o0 o1 o2 o3 o4 o5 xI;cases h7:prcB ⟨kk,s,ty,li,qt,ii,pr,tg⟩
 ·have HK:Hid (6=res):=by have:=O bz;rw[if_pos h7] at this;exact this
  clear h7;go_wp2_with fail;go_ret;exact⟨zt (O HK),(O xz).trans ((O xQ).mono (O xz).size)⟩
 have HN4:Hid (_ = res):=(if_neg (fun h=>by rw[h7] at h;cases h)).symm.trans (O bz);clear h7 bz;have k0:=zf (O HX).1 (O xQ) (O uz).1 0 _ rfl;have k1:=zf (O HX).1 (O xQ) (O uz).1 1 _ rfl;have o0:=zf (O HX).2 (O xQ) (O uz).2 0 _ rfl;have o1:=zf (O HX).2 (O xQ) (O uz).2 1 _ rfl;have o2:=zf (O HX).2 (O xQ) (O uz).2 2 _ rfl;have o3:=zf (O HX).2 (O xQ) (O uz).2 3 _ rfl;have o4:=zf (O HX).2 (O xQ) (O uz).2 4 _ rfl;have o5:=zf (O HX).2 (O xQ) (O uz).2 5 _ rfl;simp only[Nat.zero_add] at k0 k1 o0 o1 o2 o3 o4 o5;go_wp2_with fail;refine(isQty_any qt w4).mono ?_;rintro e w5 ⟨rfl,rfl⟩;cases h8:betB qt 1 1000000
 ·have HK:Hid (7=res):=by have:=O HN4;rw[if_pos h8] at this;exact this
  clear h8;go_wp2_with fail;go_ret;exact⟨zt (O HK),(O xz).trans ((O xQ).mono (O xz).size)⟩
 have HN5:Hid (_ = res):=(if_neg (fun h=>by rw[h8] at h;cases h)).symm.trans (O HN4)
 have HQB:Hid (0<=qt/\qt<=1000000):=by
  simp only[betB,xf,xg] at h8;exact⟨by omega,h8.2⟩
 clear h8 HN4;go_wp2_with fail;refine(isTag_any tg w5 (O pX)).mono ?_;rintro e w6 ⟨rfl,rfl⟩;cases h9:tagB tg
 ·have HK:Hid (8=res):=by have:=O HN5;rw[if_pos h9] at this;exact this
  clear h9;go_wp2_with fail;go_ret;exact⟨zt (O HK),(O xz).trans ((O xQ).mono (O xz).size)⟩
 have HN6:Hid (_ = res):=(if_neg (fun h=>by rw[h9] at h;cases h)).symm.trans (O HN5);clear h9 HN5;go_wp2_with fail;refine(lT next _ l ⟨kk,s,ty,li,qt,ii,pr,tg⟩ w6 (zq (O HR) ((O xz).trans ((O xQ).mono (O xz).size)) yb) (O qJ) (O HG) (O vN).1 (O vN).2 (O HQB).1 (O HQB).2).mono ?_;dsimp only;rw[O HN6];rintro e w7 ⟨rfl,qQ⟩;have jA:=U (((O xz).trans ((O xQ).mono (O xz).size)).trans (qQ.mono ((O xz).trans ((O xQ).mono (O xz).size)).size));clear qQ;go_wp2_with fail;go_ret;exact⟨rfl,O jA⟩
theorem bitsS_any (x:Nat)(w:World) :
  Calls Tryz.prog 87 #[yk x] w fun e w'=>e=yn (.int .u64 (fbit x))/\w'=w:=by
 have K:=fbits;cases h:nanB x with
 | true =>
  have HF:=U (show fbit x=9221120237041090560 from if_pos h);have h':(FloatKind.f64.format.order x x != some Ordering.eq)=true:=h;clear h;go_enter Tryz.func87,Tryz.ntmps87;go_wp2;go_ret;exact⟨zt (by rw[O HF];rfl),rfl⟩
 | false =>
  have HF:=U (show fbit x=x from if_neg (by rw[h];decide));have h':(FloatKind.f64.format.order x x != some Ordering.eq)=false:=h;clear h;go_enter Tryz.func87,Tryz.ntmps87;go_wp2;go_ret;exact⟨zt (by rw[O HF]),rfl⟩
theorem reduceRefusal_any (next:Int)(vb:Value)(l:List Od)(id qty:Int)(w:World)(hr:RdR Od.vs 6 w vb l) :
  Calls Tryz.prog 145 #[.agg #[H next,vb],.agg #[H id,H qty]] w fun e w'=>e=yn (H (redR l id qty))/\yp w w':=by
 have HR:=U hr;obtain⟨a,cap,rfl,xC,hc⟩:=hr;have aN:=U hc;clear hc;have xG:=zi w (me #[H next,.slice a l.length cap] 31);have ug:((w.alloc (me #[H next,.slice a l.length cap] 31)).alloc (me #[H id,H qty] 245)).heap.size=w.heap.size+1+1:=by rw[zi,xG]
 have r1:=zm w [H next,.slice a l.length cap] 31;have r2:=zm (w.alloc (me #[H next,.slice a l.length cap] 31)) [H id,H qty] 245;rw[xG] at r2;have qE:Below (w.heap.size+1) (w.alloc (me #[H next,.slice a l.length cap] 31)) ((w.alloc (me #[H next,.slice a l.length cap] 31)).alloc (me #[H id,H qty] 245)):=(Below.refl _ _).alloc (by rw[xG];omega) _;have xz:Hid (yp w ((w.alloc (me #[H next,.slice a l.length cap] 31)).alloc (me #[H id,H qty] 245))):=(mc _ _).alloc (by rw[xG];omega) _;have HX:Hid (_/\_):=⟨zf r1 qE (by omega),r2⟩;have uz:Hid (w.heap.size<((w.alloc (me #[H next,.slice a l.length cap] 31)).alloc (me #[H id,H qty] 245)).heap.size/\w.heap.size+1<((w.alloc (me #[H next,.slice a l.length cap] 31)).alloc (me #[H id,H qty] 245)).heap.size):=⟨by omega,by omega⟩;clear xG ug r1 r2 qE;go_enter Tryz.func145,Tryz.ntmps145;refine mg fun hb xw=>?_;go_wp2_with fail;refine O xw _ _ ?_;clear xw;generalize ((w.alloc (me #[H next,.slice a l.length cap] 31)).alloc (me #[H id,H qty] 245))=X2 at xz HX uz |-;have HX:Hid (X2.rangeAt w.heap.size 0 [H next,.slice a l.length cap]/\X2.rangeAt (w.heap.size+1) 0 [H id,H qty]):=O HX;have k0:X2.cell? (yr w 0)=some (H next):=(O HX).1 0 _ rfl;have k1:X2.cell? (yr w 1)=some (.slice a l.length cap):=(O HX).1 1 _ rfl;have o0:X2.cell? (Y (w.heap.size+1) 0)=some (H id):=(O HX).2 0 _ rfl;have o1:X2.cell? (Y (w.heap.size+1) 1)=some (H qty):=(O HX).2 1 _ rfl;go_wp2_with fail;refine(isQty_any qty X2).mono ?_;rintro e w3 ⟨rfl,rfl⟩;cases hq:betB qty 1 1000000
 ·have HK:Hid (redR l id qty=7):=by show _ = _;rw[redR,if_neg (by rw[hq];simp)]
  clear hq;go_wp2_with fail;go_ret;exact⟨zt (O HK).symm,O xz⟩
 have HQ:=U hq;clear hq;go_wp2_with fail;refine(idRefusal_any next _ l id w3 (zq (O HR) (O xz) yb)).mono ?_;rcases iH l id with hp|⟨k,o,hp,E⟩
 ·have vl:idR l id=9:=by rw[idR,if_pos (by omega)]
  rw[vl];have HK:Hid (redR l id qty=9):=by show _ = _;rw[redR,if_pos (O HQ),if_pos (by omega)]
  clear hp vl;rintro e w4 ⟨rfl,xF⟩;have xQ:=U (mf (O xz) xF);clear xF;go_wp2_with fail;go_ret;exact⟨zt (O HK).symm,O xQ⟩
 have vl:idR l id=0:=by rw[idR,if_neg (by omega)]
 rw[vl];have kU:=U hp
 have qT:Hid (redR l id qty=if o.left<=qty then 10 else 0):=by
  show _ = _;rw[redR,if_pos (O HQ),if_neg (by omega),hp,Int.toNat_natCast,E]
 have bX:=(yH.1 E).1;obtain⟨b,off,rfl,oY,xo⟩:=O aN (by intro h;rw[h] at bX;simp at bX);have HCE:=U (xo k o E);have hkl':(k:Int)<l.length:=by omega
 have pP:(0:Int)<=k:=by omega
 clear hp vl xo E;rintro e w4 ⟨rfl,xF⟩;have xQ:=U (mf (O xz) xF);have xH:Hid (w4.rangeAt w.heap.size 0 [H next,.slice (some (Y b off)) l.length cap]/\w4.rangeAt (w.heap.size+1) 0 [H id,H qty]/\w.heap.size<w4.heap.size/\w.heap.size+1<w4.heap.size):=⟨zf (O HX).1 xF (O uz).1,zf (O HX).2 xF (O uz).2,yK (O uz).1 xF.size,yK (O uz).2 xF.size⟩;clear xF k0 k1 o0 o1;go_wp2_with fail;have bJ:Hid (yp w4 w4.drew):=(Below.refl _ _).drew;have HPO:Hid (∀V,yp w4 V->Calls Tryz.prog 126 #[.agg #[H next,.slice (some (Y b off)) l.length cap],H id] V fun e w'=>e=yn (H k)/\yp w4 w'):=fun V hV=>(iW next _ l id V (zq (O HR) (mf (O xQ) hV) yb)).mono fun e w' ⟨Z,Q⟩=>⟨by rw[Z,O kU],hV.trans (Q.mono hV.size)⟩
 have oV:Hid (∀V,yp w4 V->V.cell? (Y (w.heap.size+1) 1)=some (H qty)/\V.cell? (Y (w.heap.size+1) 0)=some (H id)/\V.cell? (yr w 0)=some (H next)/\V.cell? (yr w 1)=some (.slice (some (Y b off)) l.length cap)/\V.cell? (Y b (off+k*6+3))=some (H o.left)):=fun V hV=>by
  have Z:=zf (O xH).1 hV (O xH).2.2.1;have Q:=zf (O xH).2.1 hV (O xH).2.2.2;obtain⟨-,-,-,y3,-⟩:=zL (zf (O HCE) (mf (O xQ) hV) oY);exact⟨Q 1 _ rfl,Q 0 _ rfl,Z 0 _ rfl,Z 1 _ rfl,y3⟩
 go_region_held3 (fun w'=>w'.cell? (Y (w.heap.size+1) 1)=some (H qty)/\w'.cell? (Y (w.heap.size+1) 0)=some (H id)/\w'.cell? (yr w 0)=some (H next)/\w'.cell? (yr w 1)=some (.slice (some (Y b off)) l.length cap)/\w'.cell? (Y b (off+k*6+3))=some (H o.left)) (first|exact O oV _ hq|exact O oV _ (O bJ)|go_keep) ((go_at_call 126;refine(O HPO _ (O bJ)).mono ?_;rintro e V ⟨rfl,hq⟩))
 have xI:=U (mf (O xQ) hq);clear hq HPO oV bJ
 by_cases uJ:o.left<=qty
 ·have HK:Hid (redR l id qty=10):=(O qT).trans (if_pos uJ);go_wp2_with fail;go_ret;exact⟨zt (O HK).symm,O xI⟩
 ·have HK:Hid (redR l id qty=0):=(O qT).trans (if_neg uJ);go_wp2_with fail;go_ret;exact⟨zt (O HK).symm,O xI⟩
end Go.Proofs.YtkofhemdefffpaaGreatDoor
