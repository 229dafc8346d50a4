/-.-/
import Derived.Test.YtbghmldggahjiaaGreatDoorUj29
set_option linter.unusedVariables false
set_option maxHeartbeats 6400000
set_option maxRecDepth 100000
namespace Go.Proofs.YtbghmldggahjiaaGreatDoor
open Go.RowKit
structure R8 (v ta ea:Value) (V0 V1 V2:World) (x:List Bool) (f:Nat->Value) (W:World):Prop where
 f0:x[0]? = some true->f 0=v
 f1:x[1]? = some true->f 1=ta
 f2:x[2]? = some true->f 2=ea
 f3:x[3]? = some true->f 3=v
 f5:x[5]? = some true->f 5=ea
 s0:x[4]? = some false->W=V0
 s1:x[4]? = some true->x[5]? = some false->W=V1
 s2:x[4]? = some true->x[5]? = some true->W=V2
def R8A (yl:(Nat->Value)->Act)(v ta ea:Value)(V0 V1 V2:World)(x:List Bool)(hb:Act)(W:World):Prop:=∃f,hb=yl f/\R8 v ta ea V0 V1 V2 x f W
section
variable {v ta ea:Value} {V0 V1 V2:World} {x:List Bool} {f:Nat->Value} {W:World}
theorem r8_val (h:R8 v ta ea V0 V1 V2 x f W)(i:Nat)(u:Value)(hi:i<4)(h0:i=0->u=v)(D:i=1->u=ta)(E:i=2->u=ea)(h3:i=3->u=v):R8 v ta ea V0 V1 V2 (x.set i true) (upd f i u) W:=by
 have key:∀j (y:Value),(x[j]? = some true->f j=y)->(i=j->u=y)->(x.set i true)[j]? = some true->upd f i u j=y:=by
  intro j y hf hu hx
  by_cases e:i=j
  ·subst e;rw[zr];exact hu rfl
  ·rw[zn _ _ (fun e'=>e e'.symm)];rw[gq e] at hx;exact hf hx
 refine⟨key 0 v h.f0 h0,key 1 ta h.f1 D,key 2 ea h.f2 E,key 3 v h.f3 h3,key 5 ea h.f5 (by omega),?_,?_,?_⟩ <;> rw[gq (show i≠4 by omega)]
 ·exact h.s0
 ·rw[gq (show i≠5 by omega)];exact h.s1
 ·rw[gq (show i≠5 by omega)];exact h.s2
theorem r8_4 (h:R8 v ta ea V0 V1 V2 x f W)(h4:x[4]? = some false)(h5:x[5]? = some false):R8 v ta ea V0 V1 V2 (x.set 4 true) f V1:=by
 refine⟨?_,?_,?_,?_,?_,?_,?_,?_⟩
 ·rw[gq (by omega)];exact h.f0
 ·rw[gq (by omega)];exact h.f1
 ·rw[gq (by omega)];exact h.f2
 ·rw[gq (by omega)];exact h.f3
 ·rw[gq (by omega)];exact h.f5
 ·intro e;rw[gqs h4] at e;cases e
 ·exact fun _ _=>rfl
 ·intro _ e;rw[gq (by omega),h5] at e;cases e
theorem r8_5 (h:R8 v ta ea V0 V1 V2 x f W)(h4:x[4]? = some true)(h5:x[5]? = some false):R8 v ta ea V0 V1 V2 (x.set 5 true) (upd f 5 ea) V2:=by
 refine⟨?_,?_,?_,?_,?_,?_,?_,?_⟩
 ·rw[gq (by omega),zn _ _ (by omega)];exact h.f0
 ·rw[gq (by omega),zn _ _ (by omega)];exact h.f1
 ·rw[gq (by omega),zn _ _ (by omega)];exact h.f2
 ·rw[gq (by omega),zn _ _ (by omega)];exact h.f3
 ·intro _;exact zr _ _ _
 ·intro e;rw[gq (by omega),h4] at e;cases e
 ·intro _ e;rw[gqs h5] at e;cases e
 ·exact fun _ _=>rfl
end
theorem ir {B b:Nat}{v:Value}{l:List Od}(A:b<B):∀(vs:List Value) (o:Nat) (W:World),ORow W B v l->ORow (W.setCells b o vs) B v l
 | [],_,_,h=>h
 | u::us,o,W,h=>by rw[World.setCells];exact ir A us (o+1) _ (oRow_set h A o u)
theorem ly {W:World}{b o p k:Nat}{cs vs:List Value}(h:W.rangeAt b o cs)(A:p≠b):(W.setCells p k vs).rangeAt b o cs:=fun j u hj =>
 (World.cell?_setCells_out p vs k W (U b (o+j)) (fun e=>absurd e.symm A)).trans (h j u hj)
theorem hit_same {l:List Od}{i:Nat}{o:Od}{q:Int}(h:o.left-q=0):(l.set i { o with left:=o.left-q }).take i++(l.set i { o with left:=o.left-q }).drop (i+1)=dL l i o q:=by
 have:o.left=q:=by omega
 rw[dL,if_pos this,List.take_set_of_le ya,List.drop_set_of_lt (by omega)]
theorem hit_less {l:List Od}{i:Nat}{o:Od}{q:Int}(h:o.left-q≠0):l.set i { o with left:=o.left-q } = dL l i o q:=by
 have:o.left≠q:=by omega
 rw[dL,if_neg this]
def DH (S b off i n cap:Nat)(uI vi q xB:Int)(base:Nat)(p:Prop)(W:World):Nat->Value->Prop
 | 0,v=>v=xj S 0
 | 1,v=>v=H uI
 | 2,v=>v = .slice (some (U b off)) n cap
 | 3,v=>v=H i
 | 4,v=>v=xj b (off+i*6)
 | 5,v=>v=xj b (off+i*6)
 | 6,v=>v=H vi
 | 7,v=>v=H q
 | 8,v=>v = .slice (some (U b off)) n cap
 | 9,v=>v=H i
 | 10,v=>v=xj b (off+i*6)
 | 11,v=>v=xj b (off+i*6+2)
 | 12,v=>v=H xB
 | 13,v=>v = .agg (yv 3 0 0 0 0 0 0 0 ⟨#[]⟩ uI vi q xB 0).toArray
 | 14,v=>∃c,v=xj c 0/\base<=c/\c<W.heap.size/\W.there c 0 14/\(p->W.rangeAt c 0 (yv 3 0 0 0 0 0 0 0 ⟨#[]⟩ uI vi q xB 0))
 | _,_=>True
theorem dh_grow {S b off i n cap:Nat}{uI vi q xB:Int}{base:Nat}{p:Prop}{V V':World}(A:yn V V'):∀j v,DH S b off i n cap uI vi q xB base p V j v->DH S b off i n cap uI vi q xB base p V' j v:=by
 intro j v h
 match j with
 | 0|1|2|3|4|5|6|7|8|9|10|11|12|13=>exact h
 | 14=>obtain⟨c,D,E,h3,h4,h5⟩:=h;exact⟨c,D,E,yJ h3 A.size,zl h4 A h3,fun hp=>zd (h5 hp) A h3⟩
 | j+15=>trivial
theorem dh_last {S b off i n cap:Nat}{uI vi q xB:Int}{base:Nat}{V V':World}{v:Value}:∀j,j≠15->DH S b off i n cap uI vi q xB base False V j v->(j=14->DH S b off i n cap uI vi q xB base True V' 14 v)->DH S b off i n cap uI vi q xB base True V' j v:=by
 intro j hj h h14
 match j with
 | 0|1|2|3|4|5|6|7|8|9|10|11|12|13=>exact h
 | 14=>exact h14 rfl
 | j+15=>trivial
theorem hit_mid {V w1:World}{v1:Value}{l:List Od}(xy:l ≠ [])(hl:l.length<=1000)(h6:w1.ownsRow V.heap.size 98 6 v1 (0+l.length) ([]++l.flatMap Od.vs))(h7:(V.alloc (J #[] 98)).grownBy w1 (Value.slice (some (U V.heap.size 0)) 0 0).ownBlock) :
  ∃g cp,v1 = .slice (some (U g 0)) l.length cp/\l.length<=cp/\V.heap.size<=g/\g<w1.heap.size/\ORow w1 V.heap.size v1 l/\yn V w1:=by
 have K:ORow w1 V.heap.size v1 l:=by
  show w1.ownsRow _ _ _ _ l.length _;simpa using h6
 obtain⟨g,cp,e,D,E,h3⟩:=fM K xy;exact⟨g,cp,e,D,E,h3,K,(lT _ _).grown h7 (by rw[zh];omega) (fun k X=>by simp[Value.ownBlock] at X;omega)⟩
theorem row_here {W:World}{B g n cp i:Nat}{l:List Od}{o:Od}(h:ORow W B (.slice (some (U g 0)) n cp) l)(hl:l.length<=1000)(hi:l[i]? = some o):W.rangeAt g (i*6) o.vs/\∀j,j<6->W.frozen? (U g (i*6+j))=false:=by
 obtain⟨a',c',e,_,hc⟩:=zP h (by omega);obtain⟨b',oW,e2,_,hc⟩:=hc (by rintro rfl;simp at hi);rw[e2] at e;simp only[Value.slice.injEq,Option.some.injEq,Addr.mk.injEq,and_true] at e;obtain⟨⟨rfl,rfl⟩,-⟩:=e;refine⟨by simpa using hc i o hi,fun j hj=>?_⟩;rcases h.2 with⟨D,_⟩|⟨g',qP,xr,D,_,h3,h4,_,h5,_⟩
 ·cases D
 ·simp only[Value.slice.injEq,Option.some.injEq,Addr.mk.injEq,and_true] at D;obtain⟨rfl,-⟩:=D;have hil:=(yG.1 hi).1;have:=(gD h3 ya (i*6+j) (by rw[h5];omega)).2;rwa[Nat.zero_add] at this
theorem range_left {W:World}{S g k:Nat}{a0 a1 a2 a3 a4 a5 x y:Value}(h:W.rangeAt S 0 [a0,a1,a2,a3,a4,a5])(M:g≠S):((W.setCell (U g k) x).setCell (U S 3) y).rangeAt S 0 [a0,a1,a2,y,a4,a5]:=by
 have K:∀j,j≠3->((W.setCell (U g k) x).setCell (U S 3) y).cell? (U S j)=W.cell? (U S j):=fun j hj=>(yL _ _ _ _ (eu (fun e=>hj e.symm))).trans (yL _ _ _ _ (fun e=>M (congrArg Addr.block e)));intro j u hj;rw[Nat.zero_add]
 match j,hj with
 | 0,hj=>cases hj;exact(K 0 (by omega)).trans (h 0 _ rfl)
 | 1,hj=>cases hj;exact(K 1 (by omega)).trans (h 1 _ rfl)
 | 2,hj=>cases hj;exact(K 2 (by omega)).trans (h 2 _ rfl)
 | 3,hj=>cases hj;exact yM _ _ _ ((yL _ _ _ _ (fun e=>M (congrArg Addr.block e))).trans (h 3 _ rfl))
 | 4,hj=>cases hj;exact(K 4 (by omega)).trans (h 4 _ rfl)
 | 5,hj=>cases hj;exact(K 5 (by omega)).trans (h 5 _ rfl)
 | j+6,hj=>simp at hj
theorem range_far {W:World}{b o p k:Nat}{cs:List Value}{x:Value}(h:W.rangeAt b o cs)(A:p≠b):(W.setCell (U p k) x).rangeAt b o cs:=fun j u hj =>
 (yL _ _ _ _ (fun e=>A (congrArg Addr.block e))).trans (h j u hj)
theorem l04Hit_any (v:Value)(l:List Od)(t o:Od)(i:Nat)(w:World)(hr:RdR Od.vs 6 w v l)(hn:l.length<=1000)(kO:l[i]? = some o)(ht0:0<=t.left)(ht1:t.left<=1000000)(ho0:0<=o.left)(jQ:o.left<=1000000) :
  Calls Tryz.prog 122 #[v,.agg (yw t.id t.side t.ticks t.left t.life t.tag).toArray,H i] w fun e w'=>∃v',e = .returned (.tuple #[v',.agg (Od.vs { t with left:=t.left-min t.left o.left }).toArray,.agg (Ev.vs (trE t.id o.id (min t.left o.left) o.ticks)).toArray])/\ORow w' w.heap.size v' (dL l i o (min t.left o.left))/\yn w w':=by
 obtain⟨i0,vA,uE,uw,uC⟩:=info_parts Tryz.infoOrder;have hil:=(yG.1 kO).1;have xy:l ≠ []:=by rintro rfl;simp at kO
 have HNE:=Q xy;obtain⟨a,cap,rfl,xD,hc⟩:=hr;obtain⟨b,off,rfl,A,xm⟩:=hc xy;have bI:=Q xm;have HIO:=Q kO;obtain⟨uI,um,xY,xP,ul,vD⟩:=t;obtain⟨vi,vI,xB,xO,vH,jh⟩:=o;simp only at ht0 ht1 ho0 jQ |-;generalize hq:min xP xO=q;have hqa:0<=q:=by omega
 have hqb:q<=xP:=by omega
 have hqc:q<=xO:=by omega
 have HQ:=Q hq;clear xm hc kO xy hq xD;have xI:=zh w (J (yw uI um xY xP ul vD).toArray 98);have uc:((w.alloc (J (yw uI um xY xP ul vD).toArray 98)).alloc (J (yw 0 0 0 0 0 ⟨#[]⟩).toArray 98)).heap.size=w.heap.size+1+1:=by rw[zh,xI]
 have ja:(((w.alloc (J (yw uI um xY xP ul vD).toArray 98)).alloc (J (yw 0 0 0 0 0 ⟨#[]⟩).toArray 98)).alloc (J (yv 0 0 0 0 0 0 0 0 ⟨#[]⟩ 0 0 0 0 0).toArray 89)).heap.size=w.heap.size+1+1+1:=by rw[zh,uc]
 have r1:=zo w (yw uI um xY xP ul vD) 98;have t1:=zT w (yw uI um xY xP ul vD) 98;have t2:=zT (w.alloc (J (yw uI um xY xP ul vD).toArray 98)) (yw 0 0 0 0 0 ⟨#[]⟩) 98;have t3:=zT ((w.alloc (J (yw uI um xY xP ul vD).toArray 98)).alloc (J (yw 0 0 0 0 0 ⟨#[]⟩).toArray 98)) (yv 0 0 0 0 0 0 0 0 ⟨#[]⟩ 0 0 0 0 0) 89;rw[xI] at t2;rw[uc] at t3;have b1:=lT w (J (yw uI um xY xP ul vD).toArray 98);have b2:Below (w.heap.size+1) (w.alloc (J (yw uI um xY xP ul vD).toArray 98)) ((w.alloc (J (yw uI um xY xP ul vD).toArray 98)).alloc (J (yw 0 0 0 0 0 ⟨#[]⟩).toArray 98)):=(Below.refl _ _).alloc (by omega) _;have b3:Below (w.heap.size+1+1) ((w.alloc (J (yw uI um xY xP ul vD).toArray 98)).alloc (J (yw 0 0 0 0 0 ⟨#[]⟩).toArray 98)) (((w.alloc (J (yw uI um xY xP ul vD).toArray 98)).alloc (J (yw 0 0 0 0 0 ⟨#[]⟩).toArray 98)).alloc (J (yv 0 0 0 0 0 0 0 0 ⟨#[]⟩ 0 0 0 0 0).toArray 89)):=(Below.refl _ _).alloc (by omega) _;have b23:=b2.trans (b3.mono (by omega));have HX:Hid (World.rangeAt _ w.heap.size 0 _/\World.there _ w.heap.size 0 6/\World.there _ (w.heap.size+1) 0 6/\World.there _ (w.heap.size+1+1) 0 14):=⟨zd r1 b23 (by omega),zl t1 b23 (by omega),zl t2 b3 (by omega),t3⟩;have xZ:=Q (b1.trans (b23.mono (by omega)));have kc:=Q ja;clear xI uc ja r1 t1 t2 t3 b1 b2 b3 b23;go_enter Tryz.func122,Tryz.ntmps122;refine lX fun ho xV=>?_;go_wp2_with fail;refine Z xV _ _ ?_;clear xV;generalize (((w.alloc (J (yw uI um xY xP ul vD).toArray 98)).alloc (J (yw 0 0 0 0 0 ⟨#[]⟩).toArray 98)).alloc (J (yv 0 0 0 0 0 0 0 0 ⟨#[]⟩ 0 0 0 0 0).toArray 89))=hk at HX xZ kc |-;have HX:Hid (hk.rangeAt w.heap.size 0 (yw uI um xY xP ul vD)/\hk.there w.heap.size 0 6/\hk.there (w.heap.size+1) 0 6/\hk.there (w.heap.size+1+1) 0 14):=Z HX;have t3:hk.cell? (U w.heap.size 3)=some (H xP):=(Z HX).1 3 _ rfl;have HCX:Hid (∀j c,l[j]? = some c->hk.rangeAt b (off+j*6) c.vs):=fun j c hj=>zd (Z bI j c hj) (Z xZ) A;have o3:hk.cell? (U b (off+i*6+3))=some (H xO):=Z HCX i _ (Z HIO) 3 _ rfl;have hil':(i:Int)<l.length:=by omega
 have hii:(0:Int)<=i:=by omega
 refine lX fun ho xV=>?_;go_wp2_with fail;go_quiet (fail);refine Z xV _ _ ?_;clear xV;have hif:(if xO<xP then xO else xP)=q:=by have:=Z HQ;split <;> omega
 simp only[hif];have uh:Hid ((hk.drewN nq).rangeAt w.heap.size 0 (yw uI um xY xP ul vD)/\(hk.drewN nq).there w.heap.size 0 6/\(hk.drewN nq).there (w.heap.size+1) 0 6/\(hk.drewN nq).there (w.heap.size+1+1) 0 14):=Z HX;have ud:Hid (yn w (hk.drewN nq)):=zp (Z xZ) _;have pF:Hid ((hk.drewN nq).heap.size=w.heap.size+1+1+1):=Z kc;have HC1:Hid (∀j c,l[j]? = some c->(hk.drewN nq).rangeAt b (off+j*6) c.vs):=Z HCX;clear t3 o3 hif HX xZ kc HCX;generalize hk.drewN nq=zb at uh ud pF HC1 |-;refine lX fun ho xV=>?_;refine zL (RG zb (fun f=>{ tmps:=#[.slice (some (U b off)) l.length cap,.agg (yw uI um xY xP ul vD).toArray,H i,F,xj w.heap.size 0,F,.slice none 0 0,xj (w.heap.size+1) 0,xj (w.heap.size+1+1) 0,H q,f 14,F,xj w.heap.size 3,H xP,.slice (some (U b off)) l.length cap,H i,xj b (off+i*6),xj b (off+i*6+3),H xO,H q,f 0,f 1,f 2,f 3,f 4,f 5,f 6,f 7,f 8,f 9,f 10,f 11,f 12,f 13,F,F,F,F,F,F,F,F,F,F,F,F,F,F,F,F,F,F,F,F,F,F,F,F,F,F,F,F,F,F,F,F,F,F,F,F],defers:=[] }) 15 (DH w.heap.size b off i l.length cap uI vi q xB zb.heap.size)) (by kernel_rfl) ?_ ?_ ?_
 ·exact⟨fun _=>F,rfl,⟨rfl,rfl,rfl,Nat.le_refl _,fun _ _=>rfl⟩,fun j hj=>by rw[yI] at hj;split at hj <;> simp at hj⟩
 ·rintro x hb V ⟨f,rfl,xk,hD⟩ hx xU;have xv:=eJ xU hx (acyc _ (by kernel_rfl));have pM:x[15]? = some true:=xv 15 (by simp);obtain⟨c,e14,jn,qV,-,bx⟩:=hD 14 (xv 14 (by simp));have HCR:=Q (bx pM);refine Z xV _ _ ?_;clear xV;have HS:=Z pF;have hsv:=xk.size;have HXV:Hid (V.rangeAt w.heap.size 0 (yw uI um xY xP ul vD)/\V.there w.heap.size 0 6/\V.there (w.heap.size+1) 0 6/\V.there (w.heap.size+1+1) 0 14):=⟨zd (Z uh).1 xk (by omega),zl (Z uh).2.1 xk (by omega),zl (Z uh).2.2.1 xk (by omega),zl (Z uh).2.2.2 xk (by omega)⟩;have xM:=Q (lW (Z ud) xk);have kV:b<zb.heap.size:=by omega
  have HCV:Hid (∀j c,l[j]? = some c->V.rangeAt b (off+j*6) c.vs):=fun j c hj=>zd (Z HC1 j c hj) xk kV;have hcS:w.heap.size+1+1<c:=by omega
  simp only[e14];generalize f 0=u20,f 1=u21,f 2=u22,f 3=u23,f 4=u24,f 5=u25,f 6=u26,f 7=u27,f 8=u28,f 9=u29,f 10=u30,f 11=u31,f 12=u32,f 13=u33;clear hD xv pM e14 bx xU hx xk jn uh ud HC1 pF HS;have HO0:=Q (World.ownsRow_made (base:=V.heap.size) (e:=98) (size:=6) V #[] 0 ya (by decide) rfl)
  have uA:Hid (∀j u,(l.flatMap Od.vs)[j]? = some u->(V.alloc (J #[] 98)).cell? (((U b off):Addr).add j)=some u):=fun j u hu=>by
   have h:=ib (W:=V.alloc (J #[] 98)) (g:=b) (off:=off) (l:=l) (fun i c hi=>zd (Z HCV i c hi) ((Below.refl V.heap.size V).alloc ya _) (by omega)) 0 l.length j u (by simpa using hu);simpa using h
  refine lX fun ho xV=>?_;go_wp2_with (at_builtin;go_must (refine wpList_append_own _ rfl _ _ 39 rfl V.heap.size 98 i0 _ 6 56 Tryz.underlying39 vA uE uw uC rfl (by decide) (.slice (some (U V.heap.size 0)) 0 0) 0 [] rfl (Z HO0) (U b off) l.length cap (l.flatMap Od.vs) rfl (by rw[ef Od.len]) (Z uA) (fQ l) (by unfold maxLen;omega) (by omega) (by simp) ?_);intro v1 w1 hown1 hg1 _;obtain⟨g,cp,rfl,xC,hVg,hgw,ho1',xR⟩:=hit_mid (Z HNE) hn hown1 hg1;have pp:=Q ho1';have ud:=Q xR;clear hown1 hg1 ho1' xR)
  refine Z xV _ _ ?_;clear xV uA HO0;have uh:Hid (w1.rangeAt w.heap.size 0 (yw uI um xY xP ul vD)/\w1.there w.heap.size 0 6/\w1.there (w.heap.size+1) 0 6/\w1.there (w.heap.size+1+1) 0 14):=⟨zd (Z HXV).1 (Z ud) (by omega),zl (Z HXV).2.1 (Z ud) (by omega),zl (Z HXV).2.2.1 (Z ud) (by omega),zl (Z HXV).2.2.2 (Z ud) (by omega)⟩;have HE1:=Q (zd (Z HCR) (Z ud) qV);have vT:=Q ((Z xM).trans ((Z ud).mono (Z xM).size));have xS:=row_here (Z pp) hn (Z HIO);have c3:w1.cell? (U g (i*6+3))=some (H xO):=xS.1 3 _ rfl;have f3:w1.frozen? (U g (i*6+3))=false:=xS.2 3 (by omega);have t3:w1.cell? (U w.heap.size 3)=some (H xP):=(Z uh).1 3 _ rfl;have s3:w1.frozen? (U w.heap.size 3)=false:=by have:=((Z uh).2.1 3 (by omega)).2;rwa[Nat.zero_add] at this
  have hgS:g≠w.heap.size:=by omega
  have hSg:w.heap.size≠g:=by omega
  have aS:-9223372036854775808<=xO-q:=by omega
  have hq2:xO-q<=9223372036854775807:=by omega
  have hq3:-9223372036854775808<=xP-q:=by omega
  have hq4:xP-q<=9223372036854775807:=by omega
  clear xS;refine lX fun ho xV=>?_;go_wp2_with fail;refine Z xV _ _ ?_;clear xV;refine lX fun ho xV=>?_;go_wp2_with fail;refine Z xV _ _ ?_;clear xV;have HZO:Hid (ORow ((w1.setCell (U g (i*6+3)) (H (xO-q))).setCell (U w.heap.size 3) (H (xP-q))) V.heap.size (.slice (some (U g 0)) l.length cp) (l.set i ⟨vi,vI,xB,xO-q,vH,jh⟩)):=dT (oRow_left (Z pp) rfl (Z HIO) (xO-q)).1 (by simp[Value.ownBlock];omega) _ _;have HZT:=Q (range_left (k:=i*6+3) (x:=H (xO-q)) (y:=H (xP-q)) (Z uh).1 hgS);have HZE:=Q (range_far (p:=w.heap.size) (k:=3) (x:=H (xP-q)) (range_far (p:=g) (k:=i*6+3) (x:=H (xO-q)) (Z HE1) (by omega)) (by omega));have HZ1:=Q (fK (c:=w.heap.size) (j:=3) (u:=H (xP-q)) (fK (c:=g) (j:=i*6+3) (u:=H (xO-q)) (Z uh).2.2.1));have jN:=Q (fK (c:=w.heap.size) (j:=3) (u:=H (xP-q)) (fK (c:=g) (j:=i*6+3) (u:=H (xO-q)) (Z uh).2.2.2));have HZB:=Q (((Z vT).setCell (p:=(U g (i*6+3))) (by simp;omega) (H (xO-q))).setCell (p:=(U w.heap.size 3)) ya (H (xP-q)));have hgz:g<((w1.setCell (U g (i*6+3)) (H (xO-q))).setCell (U w.heap.size 3) (H (xP-q))).heap.size:=by simp[World.setCell];exact hgw
  have z3:((w1.setCell (U g (i*6+3)) (H (xO-q))).setCell (U w.heap.size 3) (H (xP-q))).cell? (U g (i*6+3))=some (H (xO-q)):=(yL _ _ _ _ (fun e=>hSg (congrArg Addr.block e))).trans (yM _ _ _ c3);generalize ((w1.setCell (U g (i*6+3)) (H (xO-q))).setCell (U w.heap.size 3) (H (xP-q)))=za at HZO HZT HZE HZ1 jN HZB hgz z3 |-;clear c3 f3 t3 s3 uh HE1 vT pp ud HXV HCR xM HCV hgw;refine lX fun ho xV=>?_
  have HT:Hid (∀(u0 u1 u2 u3 u5 u6 u9 u12 u13 u14 u15 u16 u17 u18 u19 u20 u21 u22 u23 u24 u25 u26 u27 u28 u29 u30 u31 u32 u33 u34 u35 u36 u37 u38 u39 u40 u41 u42 u43 u44 u45 u46 u47 u48 u49 u50 u51 u52 u53 u54 u55 u56 u57 u58 u59 u60 u61 u62 u63 u64 u65 u66 u67 u68 u69 v11:Value) (Z':World),ORow Z' (w.heap.size+1+1+1) v11 (dL l i ⟨vi,vI,xB,xO,vH,jh⟩ q)->yn w Z'->Z'.rangeAt w.heap.size 0 (yw uI um xY (xP-q) ul vD)->Z'.there (w.heap.size+1) 0 6->Z'.there (w.heap.size+1+1) 0 14->Z'.rangeAt c 0 (yv 3 0 0 0 0 0 0 0 ⟨#[]⟩ uI vi q xB 0)->ho { tmps:=#[u0,u1,u2,u3,xj w.heap.size 0,u5,u6,xj (w.heap.size+1) 0,xj (w.heap.size+1+1) 0,u9,xj c 0,v11,u12,u13,u14,u15,u16,u17,u18,u19,u20,u21,u22,u23,u24,u25,u26,u27,u28,u29,u30,u31,u32,u33,u34,u35,u36,u37,u38,u39,u40,u41,u42,u43,u44,u45,u46,u47,u48,u49,u50,u51,u52,u53,u54,u55,u56,u57,u58,u59,u60,u61,u62,u63,u64,u65,u66,u67,u68,u69],defers:=[] } Z'):=by
   intro u0 u1 u2 u3 u5 u6 u9 u12 u13 u14 u15 u16 u17 u18 u19 u20 u21 u22 u23 u24 u25 u26 u27 u28 u29 u30 u31 u32 u33 u34 u35 u36 u37 u38 u39 u40 u41 u42 u43 u44 u45 u46 u47 u48 u49 u50 u51 u52 u53 u54 u55 u56 u57 u58 u59 u60 u61 u62 u63 u64 u65 u66 u67 u68 u69 v11 Z' hO hB hT D E hE;refine Z xV _ _ ?_;have HO:=Q hO;have HB:=Q hB;have ps:=Q hT;have HE:=Q hE;have HH1:=Q D;have HH2:=Q E;clear hO hB hT hE D E xV;obtain⟨V0,bw⟩:∃V:World,V = { Z' with drawn:=Z'.drawn+1 }:=⟨_,rfl⟩;have HO:Hid (ORow V0 (w.heap.size+1+1+1) v11 (dL l i ⟨vi,vI,xB,xO,vH,jh⟩ q)):=by rw[bw];exact Z HO
   have HB:Hid (yn w V0):=by rw[bw];exact(Z HB).trans ⟨rfl,rfl,rfl,Nat.le_refl _,fun _ _=>rfl⟩
   have ps:Hid (V0.rangeAt w.heap.size 0 (yw uI um xY (xP-q) ul vD)):=by rw[bw];exact Z ps
   have HE:Hid (V0.rangeAt c 0 (yv 3 0 0 0 0 0 0 0 ⟨#[]⟩ uI vi q xB 0)):=by rw[bw];exact Z HE
   have HH1:Hid (V0.there (w.heap.size+1) 0 6):=by rw[bw];exact Z HH1
   have HH2:Hid (V0.there (w.heap.size+1+1) 0 14):=by rw[bw];exact Z HH2
   obtain⟨V1,oj⟩:∃V:World,V=V0.setCells (w.heap.size+1) 0 (yw uI um xY (xP-q) ul vD):=⟨_,rfl⟩;obtain⟨V2,pW⟩:∃V:World,V=V1.setCells (w.heap.size+1+1) 0 (yv 3 0 0 0 0 0 0 0 ⟨#[]⟩ uI vi q xB 0):=⟨_,rfl⟩;have pp:Hid (ORow V1 (w.heap.size+1+1+1) v11 (dL l i ⟨vi,vI,xB,xO,vH,jh⟩ q)):=by rw[oj];exact ir (by omega) _ _ _ (Z HO)
   have ud:Hid (yn w V1):=by rw[oj];exact zg _ (by omega) _ _ _ (Z HB)
   have vW:Hid (V1.rangeAt (w.heap.size+1) 0 (yw uI um xY (xP-q) ul vD)):=by rw[oj];exact yX V0 _ 0 _ (fun j hj=>Z HH1 j hj)
   have HE1:Hid (V1.rangeAt c 0 (yv 3 0 0 0 0 0 0 0 ⟨#[]⟩ uI vi q xB 0)):=by rw[oj];exact ly (Z HE) (by omega)
   have HH3:Hid (V1.there (w.heap.size+1+1) 0 14):=by rw[oj];exact xb (Z HH2) _ _ _
   have HOE:Hid (ORow V2 w.heap.size v11 (dL l i ⟨vi,vI,xB,xO,vH,jh⟩ q)):=by rw[pW];exact ex (ir (by omega) _ _ _ (Z pp)) (by omega)
   have uH:Hid (yn w V2):=by rw[pW];exact zg _ (by omega) _ _ _ (Z ud)
   have ji:Hid (V2.rangeAt (w.heap.size+1+1) 0 (yv 3 0 0 0 0 0 0 0 ⟨#[]⟩ uI vi q xB 0)):=by rw[pW];exact yX V1 _ 0 _ (fun j hj=>Z HH3 j hj)
   have vW:Hid (V2.rangeAt (w.heap.size+1) 0 (yw uI um xY (xP-q) ul vD)):=by rw[pW];exact ly (Z vW) (by omega)
   have HV0:=Q bw;have HV1:=Q oj;have HV2:=Q pW;clear bw oj pW HO HB pp ud;go_wp2_with fail;refine zL (R8A (fun f=>{ tmps:=#[u0,u1,u2,u3,xj w.heap.size 0,u5,f 3,xj (w.heap.size+1) 0,xj (w.heap.size+1+1) 0,u9,xj c 0,v11,u12,u13,u14,u15,u16,u17,u18,u19,u20,u21,u22,u23,u24,u25,u26,u27,u28,u29,u30,u31,u32,u33,u34,u35,u36,u37,u38,u39,u40,u41,u42,u43,u44,u45,u46,u47,u48,u49,u50,u51,u52,u53,u54,u55,u56,u57,u58,u59,u60,u61,u62,u63,u64,u65,u66,f 0,f 1,f 2],defers:=[] }) v11 (.agg (yw uI um xY (xP-q) ul vD).toArray) (.agg (yv 3 0 0 0 0 0 0 0 ⟨#[]⟩ uI vi q xB 0).toArray) V0 V1 V2) (by kernel_rfl) ?_ ?_ ?_
   ·exact⟨fun j=>if j=3 then u6 else if j=0 then u67 else if j=1 then u68 else u69,rfl,⟨by simp,by simp,by simp,by simp,by simp,fun _=>(Z HV0).symm,by simp,by simp⟩⟩
   ·rintro x hb V' ⟨f,rfl,hR⟩ hx xU;have xv:=iw xU hx (by kernel_rfl);have e3:=hR.f3 (xv 3 (by simp));have eW:=hR.s2 (xv 4 (by simp)) (xv 5 (by simp));subst eW;simp only[e3];clear hR xv e3 xU hx;obtain⟨d0,d1,d2,d3,d4,d5⟩:=yC (Z vW);obtain⟨e0,e1,e2,e3,e4,e5,e6,e7,e8,e9,uL,uG,vJ,vu⟩:=yF (Z ji);go_wp2_with fail
    try simp only[Exit.inBlock,Exit.then]
    refine bodyPost_ret (by simp[results,Tryz.results122,go_sem,d0,d1,d2,d3,d4,d5,e0,e1,e2,e3,e4,e5,e6,e7,e8,e9,uL,uG,vJ,vu];try rfl) rfl ?_;exact⟨v11,rfl,Z HOE,Z uH⟩
   ·rintro x hb V' i' o' ⟨f,rfl,hR⟩ xm hx K xJ I
    have n5:i'<5->x[5]? = some false:=fun xH=>by
     rcases fj hx (show 5<6 by omega) with h|h
     ·exact h
     ·have:=xm 5 _ rfl h ⟨i',.phase⟩ (by rcases(by omega:i'=0\/i'=1\/i'=2\/i'=3\/i'=4) with rfl|rfl|rfl|rfl|rfl <;> simp) rfl;rw[xJ] at this;cases this
    have n4:i'=0\/i'=1\/i'=3->x[4]? = some false:=fun xH=>by
     rcases fj hx (show 4<6 by omega) with h|h
     ·exact h
     ·have:=xm 4 _ rfl h ⟨i',.phase⟩ (by rcases xH with rfl|rfl|rfl <;> simp) rfl;rw[xJ] at this;cases this
    have xu:=Q hR;clear xm
    match i',K with
    | 0,K =>
     obtain rfl:=yb K;clear I hR;rw[if_pos (by rfl)];unfold Oper.wp;go_simp;exact⟨upd f 0 v11,by simp[upd],r8_val (Z xu) 0 _ (by omega) (fun _=>rfl) (by omega) (by omega) (by omega)⟩
    | 1,K =>
     obtain rfl:=yb K;have eV:=hR.s0 (n4 (by omega));subst eV;obtain⟨c0,c1,c2,c3,c4,c5⟩:=yC (Z ps);clear I hR;rw[if_pos (by rfl)];unfold Oper.wp;go_simp;exact⟨upd f 1 (.agg (yw uI um xY (xP-q) ul vD).toArray),by simp[upd],r8_val (Z xu) 1 _ (by omega) (by omega) (fun _=>rfl) (by omega) (by omega)⟩
    | 2,K =>
     obtain rfl:=yb K
     have qX:Hid (V'.rangeAt c 0 (yv 3 0 0 0 0 0 0 0 ⟨#[]⟩ uI vi q xB 0)):=by
      rcases fj hx (show 4<6 by omega) with h|h
      ·rw[hR.s0 h];exact Z HE
      ·rw[hR.s1 h (n5 (by omega))];exact Z HE1
     obtain⟨c0,c1,c2,c3,c4,c5,c6,c7,c8,c9,c10,c11,c12,c13⟩:=yF (Z qX);clear I hR;rw[if_pos (by rfl)];unfold Oper.wp;go_simp;exact⟨upd f 2 (.agg (yv 3 0 0 0 0 0 0 0 ⟨#[]⟩ uI vi q xB 0).toArray),by simp[upd],r8_val (Z xu) 2 _ (by omega) (by omega) (by omega) (fun _=>rfl) (by omega)⟩
    | 3,K =>
     obtain rfl:=yb K;have g0:=hR.f0 (ye I 0 rfl);clear I hR;rw[if_pos (by rfl)];unfold Oper.wp;go_simp;exact⟨upd f 3 v11,by simp[upd,g0],r8_val (Z xu) 3 _ (by omega) (by omega) (by omega) (by omega) (fun _=>rfl)⟩
    | 4,K =>
     obtain rfl:=yb K;have g1:=hR.f1 (ye I 1 rfl);have eV:=hR.s0 xJ;subst eV;have ub:=Z HH1;obtain⟨y0,z0,q0⟩:=zi ub (j:=0) (by omega);obtain⟨y1,z1,q1⟩:=zi ub (j:=1) (by omega);obtain⟨y2,z2,q2⟩:=zi ub (j:=2) (by omega);obtain⟨y3,z3,q3⟩:=zi ub (j:=3) (by omega);obtain⟨y4,z4,q4⟩:=zi ub (j:=4) (by omega);obtain⟨y5,z5,q5⟩:=zi ub (j:=5) (by omega);have n5':=n5 (by omega);clear I hR ub;rw[if_pos (by rfl)];unfold Oper.wp;go_simp;have bR:=r8_4 (Z xu) xJ n5'
     conv at bR=>arg 9;rw[Z HV1]
     exact⟨f,by simp[g1],bR⟩
    | 5,K =>
     obtain rfl:=yb K;have g2:=hR.f2 (ye I 2 rfl);have k4:x[4]? = some true:=I ⟨4,.chain⟩ (by simp) rfl;have eV:=hR.s1 k4 xJ;subst eV;have ub:=Z HH3;have HR5:=Q (r8_5 (Z xu) k4 xJ);clear xu hR;obtain⟨y0,z0,q0⟩:=zi ub (j:=0) (by omega);obtain⟨y1,z1,q1⟩:=zi ub (j:=1) (by omega);obtain⟨y2,z2,q2⟩:=zi ub (j:=2) (by omega);obtain⟨y3,z3,q3⟩:=zi ub (j:=3) (by omega);obtain⟨y4,z4,q4⟩:=zi ub (j:=4) (by omega);obtain⟨y5,z5,q5⟩:=zi ub (j:=5) (by omega);obtain⟨y6,z6,q6⟩:=zi ub (j:=6) (by omega);obtain⟨y7,z7,q7⟩:=zi ub (j:=7) (by omega);obtain⟨y8,z8,q8⟩:=zi ub (j:=8) (by omega);obtain⟨y9,z9,q9⟩:=zi ub (j:=9) (by omega);obtain⟨y10,jv,q10⟩:=zi ub (j:=10) (by omega);obtain⟨y11,jL,q11⟩:=zi ub (j:=11) (by omega);obtain⟨y12,jZ,q12⟩:=zi ub (j:=12) (by omega);obtain⟨y13,pA,q13⟩:=zi ub (j:=13) (by omega);have hsf:=sfl;clear I ub;rw[if_pos (by rfl)];unfold Oper.wp;go_simp;have HR6:=Z HR5
     conv at HR6=>arg 9;rw[Z HV2]
     exact⟨upd f 5 (.agg (yv 3 0 0 0 0 0 0 0 ⟨#[]⟩ uI vi q xB 0).toArray),by simp[upd,g2],HR6⟩
    | i'+6,K=>simp at K
  clear xV
  by_cases hz:xO-q=0
  ·have b0:(xO-q==0)=true:=by simpa using hz
   have HH:=Q (hit_same (l:=l) (i:=i) (o:=⟨vi,vI,xB,xO,vH,jh⟩) hz);clear hz;generalize hleft:l.set i ⟨vi,vI,xB,xO-q,vH,jh⟩=left at HZO HH;have om:left.length=l.length:=by rw[<- hleft,List.length_set]
   clear hleft
   have HC7:Hid (∀j c,left[j]? = some c->za.rangeAt g (0+j*6) c.vs):=fun j c hj=>by
    have:=(row_here (Z HZO) (by omega) hj).1;rwa[Nat.zero_add]
   have hll1:l.length<=1000:=hn;have hicp:i<=cp:=by omega
   have hi1:i+1<=l.length:=by omega
   have hi1':(i:Int)+1<=l.length:=by omega
   have hlcp:(l.length:Int)<=cp:=by omega
   have h0i:(0:Int)<=(i:Int)+1:=by omega
   go_wp2_with fail;clear z3;refine iO (R7A (.slice (some (U g 0)) l.length cp) za (C7 (.slice (some (U g 0)) l.length cp) g l.length cp i) (left.take i) (left.take i++left.drop (i+1)) (fun f=>{ tmps:=#[.slice (some (U b off)) l.length cap,.agg (yw uI um xY xP ul vD).toArray,H i,F,xj w.heap.size 0,F,.slice none 0 0,xj (w.heap.size+1) 0,xj (w.heap.size+1+1) 0,H q,xj c 0,f 10,xj w.heap.size 3,H xP,.slice (some (U b off)) l.length cap,H i,xj b (off+i*6),xj b (off+i*6+3),H xO,H q,u20,u21,u22,u23,u24,u25,u26,u27,u28,u29,u30,u31,u32,u33,.slice (some (U V.heap.size 0)) 0 0,.slice (some (U b off)) l.length cap,.slice (some (U g 0)) l.length cp,.slice (some (U g 0)) l.length cp,H i,xj g (i*6),xj g (i*6+3),H xO,H q,H (xO-q),xj g (i*6),xj g (i*6+3),xj w.heap.size 3,H xP,H q,H (xP-q),xj w.heap.size 3,.slice (some (U g 0)) l.length cp,H i,xj g (i*6),xj g (i*6+3),H (xO-q),.bool true,f 0,f 1,f 2,f 3,f 4,f 5,f 6,f 7,f 8,f 9,F,F,F],defers:=[] })) (by kernel_rfl) ?_ ?_ ?_
   ·exact⟨fun j=>if j=10 then .slice (some (U g 0)) l.length cp else F,rfl,⟨⟨rfl,rfl,rfl,Nat.le_refl _,fun _ _=>rfl⟩,fun j hj=>by rw[yI] at hj;split at hj <;> simp at hj,fun _=>rfl,by simp,by simp,by simp,by simp,by simp,by simp,by simp⟩⟩
   ·rintro x hb V' ⟨f,rfl,hR⟩ hx xU;have xv:=eJ xU hx (acyc _ (by kernel_rfl));have k9:x[9]? = some true:=xv 9 (by simp);have k10:x[10]? = some true:=xv 10 (by simp);have HO9:=Q (hR.m9 k9);have uL:f 10=f 9:=hR.m10 k10;have xM:=Q hR.bel;simp only[uL];clear hR xv k9 k10 uL xU hx;have uX:=(Z HZB).size;refine Z HT _ _ _ _ _ _ _ _ _ _ _ _ _ _ _ _ _ _ _ _ _ _ _ _ _ _ _ _ _ _ _ _ _ _ _ _ _ _ _ _ _ _ _ _ _ _ _ _ _ _ _ _ _ _ _ _ _ _ _ _ _ _ _ _ _ _ _ (by rw[<- Z HH];exact ex (Z HO9) (by omega)) ((Z HZB).trans ((Z xM).mono uX)) (zd (Z HZT) (Z xM) (by omega)) (zl (Z HZ1) (Z xM) (by omega)) (zl (Z jN) (Z xM) (by omega)) (zd (Z HZE) (Z xM) (by omega))
   ·rintro x hb V i' o' ⟨f,rfl,hR⟩ hx K xJ I;have jD:=Q hR
    have n10:i'<10->x[10]? = some false:=fun xH=>by
     have jz:10<x.length:=by rw[hx];simp
     cases A:x[10]
     ·rw[yH jz,A]
     ·have:=hR.o10 (by rw[yH jz,A]) i' xH;rw[xJ] at this;cases this
    match i',K with
    | 0,K =>
     obtain rfl:=yb K;clear hR I;rw[if_pos (by rfl)];unfold Oper.wp;go_simp;exact⟨upd f 0 (.slice (some (U V.heap.size 0)) 0 0),by simp[upd],r7_0 (Z jD) xJ (fun _=>trivial)⟩
    | 1,K =>
     obtain rfl:=yb K;have s5:f 10 = .slice (some (U g 0)) l.length cp:=hR.s5 (n10 (by omega));clear hR I;rw[if_pos (by rfl)];unfold Oper.wp;go_simp;exact⟨upd f 1 (.slice (some (U g 0)) l.length cp),by simp[upd,s5],eK (Z jD) 1 _ rfl (by decide) (by decide) (by decide) (by decide)⟩
    | 2,K =>
     obtain rfl:=yb K;clear hR I;rw[if_pos (by rfl)];unfold Oper.wp;go_simp;exact⟨upd f 2 (H i),by simp[upd],eK (Z jD) 2 _ rfl (by decide) (by decide) (by decide) (by decide)⟩
    | 3,K =>
     obtain rfl:=yb K;have g1:C7 (.slice (some (U g 0)) l.length cp) g l.length cp i 1 (f 1):=hR.c 1 (ye I 1 rfl);have g2:C7 (.slice (some (U g 0)) l.length cp) g l.length cp i 2 (f 2):=hR.c 2 (ye I 2 rfl);simp only[C7] at g1 g2;clear hR I;rw[if_pos (by rfl)];unfold Oper.wp;go_simp;exact⟨upd f 3 (.slice (some (U g 0)) i cp),by simp[upd,g1,g2],eK (Z jD) 3 _ rfl (by decide) (by decide) (by decide) (by decide)⟩
    | 4,K =>
     obtain rfl:=yb K;have g3:C7 (.slice (some (U g 0)) l.length cp) g l.length cp i 3 (f 3):=hR.c 3 (ye I 3 rfl);have k0:x[0]? = some true:=I ⟨0,.data⟩ (by simp) rfl;have HCV:Hid (∀j c,left[j]? = some c->V.rangeAt g (0+j*6) c.vs):=fun j c hj=>zd (Z HC7 j c hj) hR.bel hgz;simp only[C7] at g3;clear hR I;rw[if_pos (by rfl)];refine wp_append_own V (.tmp 57) (.tmp 60) 39 rfl za.heap.size 98 i0 _ 6 56 Tryz.underlying39 vA uE uw uC rfl (by decide) (f 0) 0 [] rfl ((Z jD).m0 k0 xJ) (U g 0) i cp ((left.take i).flatMap Od.vs) g3 (by rw[ef Od.len,List.length_take];congr 1;omega) (by simpa using ib (W:=V) (g:=g) (off:=0) (l:=left) (Z HCV) 0 i) (fQ _) (by unfold maxLen;omega) (by omega) (Z jD).bel.size ?_;intro v' w' xL vY _;refine⟨upd f 4 v',rfl,r7_4 (Z jD) k0 xJ (fun _=>trivial) ?_ vY⟩;have xD:(left.take i).length=0+i:=by rw[List.length_take];omega
     show w'.ownsRow _ _ _ _ (left.take i).length _;rw[xD];simpa using xL
    | 5,K =>
     obtain rfl:=yb K;have s5:f 10 = .slice (some (U g 0)) l.length cp:=hR.s5 (n10 (by omega));clear hR I;rw[if_pos (by rfl)];unfold Oper.wp;go_simp;exact⟨upd f 5 (.slice (some (U g 0)) l.length cp),by simp[upd,s5],eK (Z jD) 5 _ rfl (by decide) (by decide) (by decide) (by decide)⟩
    | 6,K =>
     obtain rfl:=yb K;clear hR I;rw[if_pos (by rfl)];unfold Oper.wp;go_simp;exact⟨upd f 6 (H i),by simp[upd],eK (Z jD) 6 _ rfl (by decide) (by decide) (by decide) (by decide)⟩
    | 7,K =>
     obtain rfl:=yb K;have g6:C7 (.slice (some (U g 0)) l.length cp) g l.length cp i 6 (f 6):=hR.c 6 (ye I 6 rfl);simp only[C7] at g6;have hwr:IntKind.i64.wrap ((i:Int)+1)=(i:Int)+1:=by rw[IntKind.wrap_i64];omega
     clear hR I;rw[if_pos (by rfl)];unfold Oper.wp;go_simp;exact⟨upd f 7 (H ((i:Int)+1)),by simp[upd,g6],eK (Z jD) 7 _ rfl (by decide) (by decide) (by decide) (by decide)⟩
    | 8,K =>
     obtain rfl:=yb K;have g5:C7 (.slice (some (U g 0)) l.length cp) g l.length cp i 5 (f 5):=hR.c 5 (ye I 5 rfl);have g7:C7 (.slice (some (U g 0)) l.length cp) g l.length cp i 7 (f 7):=hR.c 7 (ye I 7 rfl);simp only[C7] at g5 g7;clear hR I
     by_cases hcp:cp=i+1
     ·subst hcp;rw[if_pos (by rfl)];unfold Oper.wp;go_simp;exact⟨upd f 8 (.slice (some (U g 0)) (l.length-(i+1)) 0),by simp[upd,g5,g7];omega,eK (Z jD) 8 _ ⟨_,_,rfl,fun h=>by omega⟩ (by decide) (by decide) (by decide) (by decide)⟩
     ·rw[if_pos (by rfl)];unfold Oper.wp;go_simp;exact⟨upd f 8 (.slice (some (U g ((i+1)*6))) (l.length-(i+1)) (cp-(i+1))),by simp[upd,g5,g7],eK (Z jD) 8 _ ⟨_,_,rfl,fun h=>rfl⟩ (by decide) (by decide) (by decide) (by decide)⟩
    | 9,K =>
     obtain rfl:=yb K;have g8:C7 (.slice (some (U g 0)) l.length cp) g l.length cp i 8 (f 8):=hR.c 8 (ye I 8 rfl);have k4:x[4]? = some true:=I ⟨4,.data⟩ (by simp) rfl;have HCV:Hid (∀j c,left[j]? = some c->V.rangeAt g (0+j*6) c.vs):=fun j c hj=>zd (Z HC7 j c hj) hR.bel hgz;obtain⟨ad8,c8,g8,had⟩:=g8;clear hR I
     have hsrc8:∀j u,((left.drop (i+1)).flatMap Od.vs)[j]? = some u->V.cell? (ad8.add j)=some u:=by
      intro j u hu
      by_cases xH:i+1<l.length
      ·rw[had xH];have:=ib (W:=V) (g:=g) (off:=0) (l:=left) (Z HCV) (i+1) (l.length-(i+1)) j u (by rw[yZ (by simp[om])];exact hu);simpa using this
      ·rw[xa (by omega)] at hu;simp at hu
     rw[if_pos (by rfl)];refine wp_append_own V (.tmp 61) (.tmp 65) 39 rfl za.heap.size 98 i0 _ 6 56 Tryz.underlying39 vA uE uw uC rfl (by decide) (f 4) (left.take i).length ((left.take i).flatMap Od.vs) rfl ((Z jD).m4 k4 xJ) ad8 (l.length-(i+1)) c8 ((left.drop (i+1)).flatMap Od.vs) g8 (by rw[ef Od.len,List.length_drop,om]) hsrc8 (fQ _) (by unfold maxLen;rw[List.length_take];omega) (by rw[List.length_take];omega) (Z jD).bel.size ?_;intro v' w' xL vY _;refine⟨upd f 9 v',rfl,r7_9 (Z jD) k4 xJ (fun _=>trivial) ?_ vY⟩;show w'.ownsRow _ _ _ _ (left.take i++left.drop (i+1)).length _;rw[yP,List.length_drop,om,List.flatMap_append];exact xL
    | 10,K =>
     obtain rfl:=yb K
     have hA:∀j,j<10->x[j]? = some true:=fun j hj=>I ⟨j,.phase⟩ (by
      match j,hj with
      | 0,_=>simp
      | 1,_=>simp
      | 2,_=>simp
      | 3,_=>simp
      | 4,_=>simp
      | 5,_=>simp
      | 6,_=>simp
      | 7,_=>simp
      | 8,_=>simp
      | 9,_=>simp
      | n+10,h=>omega) rfl
     clear hR I;rw[if_pos (by rfl)];unfold Oper.wp;go_simp;exact⟨upd f 10 (f 9),by simp[upd],r7_10 (Z jD) hA xJ (fun _=>trivial)⟩
    | n+11,K=>simp at K
  ·have b0:(xO-q==0)=false:=by simpa using hz
   have HH:=Q (hit_less (l:=l) (i:=i) (o:=⟨vi,vI,xB,xO,vH,jh⟩) hz);clear hz;go_wp2_with fail;refine Z HT _ _ _ _ _ _ _ _ _ _ _ _ _ _ _ _ _ _ _ _ _ _ _ _ _ _ _ _ _ _ _ _ _ _ _ _ _ _ _ _ _ _ _ _ _ _ _ _ _ _ _ _ _ _ _ _ _ _ _ _ _ _ _ _ _ _ _ (by rw[<- Z HH];exact ex (Z HZO) (by omega)) (Z HZB) (Z HZT) (Z HZ1) (Z jN) (Z HZE)
 ·rintro x hb V i' o' ⟨f,rfl,xk,hD⟩ xm hx K xJ I
  have n15':i'<15->¬ x[15]? = some true:=fun xH jJ=>by
   have jr:∀j,j<15->x[j]? = some true:=fun j hj=>xm 15 _ rfl jJ ⟨j,.phase⟩ (by
    rcases(by omega:j=0\/j=1\/j=2\/j=3\/j=4\/j=5\/j=6\/j=7\/j=8\/j=9\/j=10\/j=11\/j=12\/j=13\/j=14) with rfl|rfl|rfl|rfl|rfl|rfl|rfl|rfl|rfl|rfl|rfl|rfl|rfl|rfl|rfl <;> simp) rfl
   rw[jr i' xH] at xJ;cases xJ
  clear xm;have xM:=Q xk;have HD:=Q hD;have hS1:=Z pF;have kV:b<zb.heap.size:=by omega
  have z0:V.cell? (U w.heap.size 0)=some (H uI):=zd (Z uh).1 xk (by omega) 0 _ rfl;have o0:V.cell? (U b (off+i*6))=some (H vi):=zd (Z HC1 i _ (Z HIO)) xk kV 0 _ rfl;have o2:V.cell? (U b (off+i*6+2))=some (H xB):=zd (Z HC1 i _ (Z HIO)) xk kV 2 _ rfl;clear xV hS1
  match i',K with
  | 0,K =>
   obtain rfl:=yb K;clear I hD xk;rw[if_pos (by rfl)];unfold Oper.wp;go_simp;exact⟨upd f 0 (xj w.heap.size 0),by simp[upd],zF (Z xM) (Z HD) (by decide) rfl⟩
  | 1,K =>
   obtain rfl:=yb K;have g0:f 0=xj w.heap.size 0:=hD 0 (ye I 0 rfl);clear I hD xk;rw[if_pos (by rfl)];unfold Oper.wp;go_simp;exact⟨upd f 1 (H uI),by simp[upd,g0],zF (Z xM) (Z HD) (by decide) rfl⟩
  | 2,K|8,K =>
   obtain rfl:=yb K;clear I hD xk;rw[if_pos (by rfl)];unfold Oper.wp;go_simp;exact⟨upd f _ (.slice (some (U b off)) l.length cap),by simp[upd],zF (Z xM) (Z HD) (by decide) rfl⟩
  | 3,K|9,K =>
   obtain rfl:=yb K;clear I hD xk;rw[if_pos (by rfl)];unfold Oper.wp;go_simp;exact⟨upd f _ (H i),by simp[upd],zF (Z xM) (Z HD) (by decide) rfl⟩
  | 4,K =>
   obtain rfl:=yb K;have g2:f 2 = .slice (some (U b off)) l.length cap:=hD 2 (ye I 2 rfl);have g3:f 3=H i:=hD 3 (ye I 3 rfl);clear I hD xk;rw[if_pos (by rfl)];unfold Oper.wp;go_simp;exact⟨upd f 4 (xj b (off+i*6)),by simp[upd,g2,g3],zF (Z xM) (Z HD) (by decide) rfl⟩
  | 5,K =>
   obtain rfl:=yb K;have g4:f 4=xj b (off+i*6):=hD 4 (ye I 4 rfl);clear I hD xk;rw[if_pos (by rfl)];unfold Oper.wp;go_simp;exact⟨upd f 5 (xj b (off+i*6)),by simp[upd,g4],zF (Z xM) (Z HD) (by decide) rfl⟩
  | 6,K =>
   obtain rfl:=yb K;have g5:f 5=xj b (off+i*6):=hD 5 (ye I 5 rfl);clear I hD xk;rw[if_pos (by rfl)];unfold Oper.wp;go_simp;exact⟨upd f 6 (H vi),by simp[upd,g5],zF (Z xM) (Z HD) (by decide) rfl⟩
  | 7,K =>
   obtain rfl:=yb K;clear I hD xk;rw[if_pos (by rfl)];unfold Oper.wp;go_simp;exact⟨upd f 7 (H q),by simp[upd],zF (Z xM) (Z HD) (by decide) rfl⟩
  | 10,K =>
   obtain rfl:=yb K;have g8:f 8 = .slice (some (U b off)) l.length cap:=hD 8 (ye I 8 rfl);have g9:f 9=H i:=hD 9 (ye I 9 rfl);clear I hD xk;rw[if_pos (by rfl)];unfold Oper.wp;go_simp;exact⟨upd f 10 (xj b (off+i*6)),by simp[upd,g8,g9],zF (Z xM) (Z HD) (by decide) rfl⟩
  | 11,K =>
   obtain rfl:=yb K;have oi:f 10=xj b (off+i*6):=hD 10 (ye I 10 rfl);clear I hD xk;rw[if_pos (by rfl)];unfold Oper.wp;go_simp;exact⟨upd f 11 (xj b (off+i*6+2)),by simp[upd,oi],zF (Z xM) (Z HD) (by decide) rfl⟩
  | 12,K =>
   obtain rfl:=yb K;have jU:f 11=xj b (off+i*6+2):=hD 11 (ye I 11 rfl);clear I hD xk;rw[if_pos (by rfl)];unfold Oper.wp;go_simp;exact⟨upd f 12 (H xB),by simp[upd,jU],zF (Z xM) (Z HD) (by decide) rfl⟩
  | 13,K =>
   obtain rfl:=yb K;have g1:f 1=H uI:=hD 1 (ye I 1 rfl);have g6:f 6=H vi:=hD 6 (ye I 6 rfl);have g7:f 7=H q:=hD 7 (ye I 7 rfl);have qh:f 12=H xB:=hD 12 (ye I 12 rfl);clear I hD xk;rw[if_pos (by rfl)];unfold Oper.wp;go_simp;exact⟨upd f 13 (.agg (yv 3 0 0 0 0 0 0 0 ⟨#[]⟩ uI vi q xB 0).toArray),by simp[upd,g1,g6,g7,qh],zF (Z xM) (Z HD) (by decide) rfl⟩
  | 14,K =>
   obtain rfl:=yb K;have n15:=n15' (by omega);clear I hD xk;rw[if_pos (by rfl)];unfold Oper.wp;go_simp;have xz:=lT V (J (yv 0 0 0 0 0 0 0 0 ⟨#[]⟩ 0 0 0 0 0).toArray 89);exact⟨upd f 14 (xj V.heap.size 0),by simp[upd],ff (Z xM) (Z HD) xz (by decide) (dh_grow xz) ⟨V.heap.size,rfl,(Z xM).size,by rw[zh];omega,zT V (yv 0 0 0 0 0 0 0 0 ⟨#[]⟩ 0 0 0 0 0) _,fun h=>absurd h n15⟩⟩
  | 15,K =>
   obtain rfl:=yb K;have oZ:f 13 = .agg (yv 3 0 0 0 0 0 0 0 ⟨#[]⟩ uI vi q xB 0).toArray:=hD 13 (ye I 13 rfl);obtain⟨c,bp,jn,qV,bA,-⟩:=hD 14 (ye I 14 rfl);have HCT:=Q bA;obtain⟨y0,z20,n20⟩:=zi bA (j:=0) (by omega);obtain⟨y1,z21,n21⟩:=zi bA (j:=1) (by omega);obtain⟨y2,z22,n22⟩:=zi bA (j:=2) (by omega);obtain⟨y3,z23,n23⟩:=zi bA (j:=3) (by omega);obtain⟨y4,z24,n24⟩:=zi bA (j:=4) (by omega);obtain⟨y5,z25,n25⟩:=zi bA (j:=5) (by omega);obtain⟨y6,z26,n26⟩:=zi bA (j:=6) (by omega);obtain⟨y7,z27,n27⟩:=zi bA (j:=7) (by omega);obtain⟨y8,z28,n28⟩:=zi bA (j:=8) (by omega);obtain⟨y9,z29,n29⟩:=zi bA (j:=9) (by omega);obtain⟨y10,z30,n30⟩:=zi bA (j:=10) (by omega);obtain⟨y11,z31,n31⟩:=zi bA (j:=11) (by omega);obtain⟨y12,z32,n32⟩:=zi bA (j:=12) (by omega);obtain⟨y13,z33,n33⟩:=zi bA (j:=13) (by omega);have hsf:=sfl;clear I hD xk bA;rw[if_pos (by rfl)];unfold Oper.wp;go_simp;refine⟨upd f 15 F,by simp[upd,oZ,bp],rgx_last (zg c jn (yv 3 0 0 0 0 0 0 0 ⟨#[]⟩ uI vi q xB 0) 0 V (Z xM)) (Z HD) xJ (fun j hj hxj h=>dh_last j hj h (fun hj14=>?_)) trivial⟩;subst hj14;refine⟨c,bp,jn,by rw[fH];exact qV,xb (Z HCT) _ _ _,fun _=>yX V c 0 _ (fun j hj=>Z HCT j hj)⟩
  | n+16,K=>simp at K
end Go.Proofs.YtbghmldggahjiaaGreatDoor
