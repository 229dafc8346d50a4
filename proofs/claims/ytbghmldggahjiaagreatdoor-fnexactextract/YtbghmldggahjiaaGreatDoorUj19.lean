/-.-/
import Derived.Test.YtbghmldggahjiaaGreatDoorUj18
set_option linter.unusedVariables false
set_option maxHeartbeats 6400000
set_option maxRecDepth 100000
namespace Go.Proofs.YtbghmldggahjiaaGreatDoor
open Go.RowKit
def dN (l:List Od)(sd:Int):Option Od:=(quOf (decide (sd=1)) (zB l sd)).head?
def matL (c:Cm)(id:Int):Nat->List Od->Int->List Ev->List Od × Int × List Ev
 | 0,l,left,ts=>(l,left,ts)
 | n+1,l,left,ts =>
  if 0<left then
   match dN l (othS c.s) with
   | none=>(l,left,ts)
   | some o=>if dY c o=true then matL c id n (dL l (plc l o.id).toNat o (min left o.left)) (left-min left o.left) (ts ++ [trE id o.id (min left o.left) o.ticks]) else(l,left,ts)
  else(l,left,ts)
structure GoodL (l:List Od):Prop where
 len:l.length<=20
 left:∀o∈l,0<o.left/\o.left<=1000000
 rise:ew l
theorem fY {l:List Od}{sd:Int}{o:Od}(h:dN l sd=some o):o∈l/\o.side=sd:=by
 have D:o∈quOf (decide (sd=1)) (zB l sd):=List.mem_of_head? h;obtain⟨k,_,E⟩:=List.mem_flatMap.1 D;have h3:=(List.mem_filter.1 E).1;have h4:=List.mem_filter.1 h3;exact⟨h4.1,by simpa using h4.2⟩
theorem rise_id {l:List Od}(hr:ew l){i k:Nat}{o o':Od}(hi:l[i]? = some o')(X:l[k]? = some o)(he:o'.id=o.id):i=k:=by
 obtain⟨D,rfl⟩:=yG.1 hi;obtain⟨E,rfl⟩:=yG.1 X;rcases Nat.lt_trichotomy i k with h|h|h
 ·have:=List.pairwise_iff_getElem.1 hr i k D E h;omega
 ·exact h
 ·have:=List.pairwise_iff_getElem.1 hr k i E D h;omega
theorem eX {l:List Od}(hr:ew l){k:Nat}{o:Od}(X:l[k]? = some o):plc l o.id=k:=by
 rcases plcF_spec o.id l 0 with⟨_,E⟩|⟨i,o',D,E,h3,_⟩
 ·exact absurd rfl (E o (yO X))
 ·rw[plc,D,rise_id hr E X h3];congr 1;omega
theorem fO {l:List Od}(h:GoodL l){k:Nat}{o:Od}(X:l[k]? = some o){qty:Int}(h0:0<=qty)(D:qty<=o.left):GoodL (dL l k o qty)/\((dL l k o qty).length+1=l.length\/(qty<o.left/\(dL l k o qty).length=l.length)):=by
 have pg:=(yG.1 X).1
 by_cases he:o.left=qty
 ·have e:dL l k o qty=l.take k++l.drop (k+1):=if_pos he;rw[e]
  have hs:(l.take k++l.drop (k+1)).Sublist l:=by
   have:(l.take k++l.drop (k+1)).Sublist (l.take k++l.drop k):=List.Sublist.append (List.Sublist.refl _) (by rw[drop_get X];exact List.sublist_cons_self _ _);rwa[List.take_append_drop] at this
  refine⟨⟨yN hs.length_le h.len,fun o' qF=>h.left o' (hs.subset qF),h.rise.sublist hs⟩,.inl ?_⟩;simp;omega
 ·have e:dL l k o qty=l.set k { o with left:=o.left-qty }:=if_neg he;rw[e];have K:=h.left o (yO X);refine⟨⟨by rw[List.length_set];exact h.len,fun o' qF=>?_,?_⟩,.inr ⟨by omega,by rw[List.length_set]⟩⟩
  ·rcases List.mem_or_eq_of_mem_set qF with E|rfl
   ·exact h.left o' E
   ·simp only;omega
  ·refine List.pairwise_iff_getElem.2 fun i j hi hj pY=>?_;rw[List.length_set] at hi hj;have hp:=List.pairwise_iff_getElem.1 h.rise i j hi hj pY;have hko:l[k]=o:=by have:=(yG.1 X).2;exact this
   rw[List.getElem_set,List.getElem_set];split <;> split
   ·omega
   ·next E _=>subst E;rw[hko] at hp;exact hp
   ·next _ E=>subst E;rw[hko] at hp;exact hp
   ·exact hp
structure MI (c:Cm) (id:Int) (yl:List Od × Int × List Ev) (l:List Od) (left:Int) (ts:List Ev):Prop where
 good:GoodL l
 l0:0<=left
 l1:left<=1000000
 few:ts.length<=21
 some:0<left->ts.length+l.length<=20
 goal:∃n,matL c id n l left ts=yl/\(0<left->l.length<n)
theorem matL_end {c:Cm}{id:Int}{n:Nat}{l:List Od}{left:Int}{ts:List Ev}(h:left<=0):matL c id n l left ts=(l,left,ts):=by
 cases n with
 | zero=>rfl
 | succ n=>rw[matL,if_neg (by omega)]
theorem mi_start {c:Cm}{id:Int}{l:List Od}{left:Int}(h:GoodL l)(h0:0<=left)(D:left<=1000000):MI c id (matL c id 21 l left []) l left []:=
 ⟨h,h0,D,by simp,fun _=>by simpa using h.len,21,rfl,fun _=>by have:=h.len;omega⟩
theorem mi_none {c:Cm}{id:Int}{yl:List Od × Int × List Ev}{l:List Od}{left:Int}{ts:List Ev}(h:MI c id yl l left ts)(hf:dN l (othS c.s)=none):yl=(l,left,ts):=by
 obtain⟨n,rfl,hn⟩:=h.goal
 by_cases h0:0<left
 ·obtain⟨m,rfl⟩:∃m,n=m+1:=⟨n-1,by have:=hn h0;omega⟩;rw[matL,if_pos h0,hf]
 ·exact matL_end (by omega)
theorem mi_stop {c:Cm}{id:Int}{yl:List Od × Int × List Ev}{l:List Od}{left:Int}{ts:List Ev}(h:MI c id yl l left ts){o:Od}(hf:dN l (othS c.s)=some o)(hm:dY c o=false):yl=(l,left,ts):=by
 obtain⟨n,rfl,hn⟩:=h.goal
 by_cases h0:0<left
 ·obtain⟨m,rfl⟩:∃m,n=m+1:=⟨n-1,by have:=hn h0;omega⟩;rw[matL,if_pos h0,hf];simp only[hm];rw[if_neg (by simp)]
 ·exact matL_end (by omega)
theorem mi_done {c:Cm}{id:Int}{yl:List Od × Int × List Ev}{l:List Od}{left:Int}{ts:List Ev}(h:MI c id yl l left ts)(h0:¬ 0<left):yl=(l,left,ts):=by
 obtain⟨n,rfl,hn⟩:=h.goal;exact matL_end (by omega)
theorem mi_step {c:Cm}{id:Int}{yl:List Od × Int × List Ev}{l:List Od}{left:Int}{ts:List Ev}(h:MI c id yl l left ts)(h0:0<left){o:Od}(hf:dN l (othS c.s)=some o)(hm:dY c o=true) :
  ∃k,plc l o.id=(k:Nat)/\l[k]? = some o/\MI c id yl (dL l k o (min left o.left)) (left-min left o.left) (ts ++ [trE id o.id (min left o.left) o.ticks])/\2*(dL l k o (min left o.left)).length+(if 0<left-min left o.left then 1 else 0)<2*l.length+1:=by
 obtain⟨vK,_⟩:=fY hf;obtain⟨k,X⟩:=List.getElem?_of_mem vK;have hp:=eX h.good.rise X;have K:=h.good.left o vK;have D:=h.l1;have hs:=h.some h0;obtain⟨M,hl⟩:=fO h.good X (qty:=min left o.left) (by omega) (by omega);obtain⟨n,hF,hn⟩:=h.goal;obtain⟨m,rfl⟩:∃m,n=m+1:=⟨n-1,by have:=hn h0;omega⟩;have hn:=hn h0;rw[matL,if_pos h0,hf] at hF;simp only[hm,if_true] at hF;rw[hp,Int.toNat_natCast] at hF;refine⟨k,hp,X,⟨M,by omega,by omega,?_,fun xH=>?_,m,hF,fun xH=>?_⟩,?_⟩
 ·rw[yP];simp only[List.length_cons,List.length_nil];omega
 ·rw[yP];simp only[List.length_cons,List.length_nil];omega
 ·omega
 ·split <;> omega
section
variable {base W W':World} {yl:(Nat->Value)->Act} {k:Nat} {h1:Prop->World->Nat->Value->Prop} {x:List Bool} {f:Nat->Value}
theorem ff (A:yn base W)(h:∀j,x[j]? = some true->h1 (x[k]? = some true) W j (f j))(M:yn W W'){i:Nat}(hik:i≠k)(hm:∀j v,h1 (x[k]? = some true) W j v->h1 (x[k]? = some true) W' j v){v:Value}(hv:h1 (x[k]? = some true) W' i v) :
  yn base W'/\∀j,(x.set i true)[j]? = some true->h1 ((x.set i true)[k]? = some true) W' j (upd f i v j):=by
 refine⟨A.trans (M.mono A.size),fun j hj=>?_⟩;rw[yW hik]
 by_cases hji:j=i
 ·subst hji;rw[zr];exact hv
 ·rw[zn _ _ hji];rw[yW (fun e=>hji e.symm)] at hj;exact hm _ _ (h j hj)
theorem rgx_last (A:yn base W')(h:∀j,x[j]? = some true->h1 (x[k]? = some true) W j (f j))(X:x[k]? = some false)(hm:∀j,j≠k->x[j]? = some true->h1 False W j (f j)->h1 True W' j (f j)){v:Value}(hv:h1 True W' k v) :
  yn base W'/\∀j,(x.set k true)[j]? = some true->h1 ((x.set k true)[k]? = some true) W' j (upd f k v j):=by
 have e:((x.set k true)[k]? = some true)=True:=by
  rw[List.getElem?_set_self (yG.1 X).1];simp
 refine⟨A,fun j hj=>?_⟩;rw[e]
 by_cases hji:j=k
 ·subst hji;rw[zr];exact hv
 ·rw[zn _ _ hji];rw[yW (fun e=>hji e.symm)] at hj;refine hm j hji hj ?_;have:=h j hj;rw[X] at this;simpa using this
end
theorem matS_made {V:World}{mb B:Nat}{next:Int}{a4:Option Addr}{c4:Nat}{l:List Od}{c:Cm}(ht:V.there mb 0 9)(A:∃xr,V.heap[mb]? = some (.cells xr 276 (0,0)))(K:ORow V B (.slice a4 l.length c4) l)(hB:B<=V.heap.size) :
  MatS mb B (V.setCells mb 0 [H next,.slice a4 l.length c4,H next,H c.s,H (tk c.p),H c.q,H c.l,yk c.g,.slice none 0 0]) next (.slice a4 l.length c4) l (ordO c next) (.slice none 0 0) []:=by
 have hn:some mb≠(Value.slice a4 l.length c4).ownBlock:=zy K A (by decide);have hr:=yX V mb 0 [H next,.slice a4 l.length c4,H next,H c.s,H (tk c.p),H c.q,H c.l,yk c.g,.slice none 0 0] (fun j hj=>ht j hj);refine⟨hr,fun j hj=>⟨?_,?_⟩,?_,World.ownsRow_nil _ _ _ _,?_,?_⟩
 ·obtain⟨u,hu⟩:∃u,[H next,.slice a4 l.length c4,H next,H c.s,H (tk c.p),H c.q,H c.l,yk c.g,.slice none 0 0][j]? = some u:=⟨_,yH (by simpa using hj)⟩;rw[hr j u hu];rfl
 ·have:=(ht j hj).2;simp only[World.setCells,World.frozen?_setCell];exact this
 ·simp only[World.setCells];exact dT (dT (dT (dT (dT (dT (dT (dT (dT K hn _ _) hn _ _) hn _ _) hn _ _) hn _ _) hn _ _) hn _ _) hn _ _) hn _ _
 ·obtain⟨xr,A⟩:=A;simp only[World.setCells];obtain⟨_,D⟩:=fd V mb 0 (H next) A;obtain⟨_,D⟩:=fd _ mb 1 (.slice a4 l.length c4) D;obtain⟨_,D⟩:=fd _ mb 2 (H next) D;obtain⟨_,D⟩:=fd _ mb 3 (H c.s) D;obtain⟨_,D⟩:=fd _ mb 4 (H (tk c.p)) D;obtain⟨_,D⟩:=fd _ mb 5 (H c.q) D;obtain⟨_,D⟩:=fd _ mb 6 (H c.l) D;obtain⟨_,D⟩:=fd _ mb 7 (yk c.g) D;exact fd _ mb 8 (.slice none 0 0) D
 ·simp only[World.setCells,World.setCell,Array.size_modify];exact hB
def DM (b2 B:Nat)(base:World)(next:Int)(a:Option Addr)(cap:Nat)(l:List Od)(c:Cm)(p:Prop)(V:World):Nat->Value->Prop
 | 0,v=>v = .agg #[H next,.slice a l.length cap]
 | 1,v=>∃a4 c4,v = .agg #[H next,.slice a4 l.length c4]/\(¬ p->ORow V B (.slice a4 l.length c4) l)
 | 2,v=>v = .agg #[H c.s,H c.t,H c.l,H c.q,yj c.p,yk c.g]
 | 3,v=>v=xj b2 0
 | 4,v=>v=H next
 | 5,v=>v = .agg (yw next c.s (tk c.p) c.q c.l c.g).toArray
 | 6,v=>∃a4 c4,v = .agg #[H next,.slice a4 l.length c4,H next,H c.s,H (tk c.p),H c.q,H c.l,yk c.g,.slice none 0 0]/\(¬ p->ORow V B (.slice a4 l.length c4) l)
 | 7,v=>∃mb,v=xj mb 0/\base.heap.size<=mb/\(¬ p->V.there mb 0 9/\∃xr,V.heap[mb]? = some (.cells xr 276 (0,0)))/\(p->∃a4 c4,MatS mb B V next (.slice a4 l.length c4) l (ordO c next) (.slice none 0 0) [])
 | _,_=>True
section
variable {b2 B:Nat} {base V V':World} {next:Int} {a:Option Addr} {cap:Nat} {l:List Od} {c:Cm} {p:Prop}
theorem dm_grow (hp:¬ p)(A:yn V V'):∀j v,DM b2 B base next a cap l c p V j v->DM b2 B base next a cap l c p V' j v:=by
 intro j v h
 match j with
 | 0|2|3|4|5=>exact h
 | 1=>obtain⟨a4,c4,D,E⟩:=h;exact⟨a4,c4,D,fun hp=>zK (E hp) A⟩
 | 6=>obtain⟨a4,c4,D,E⟩:=h;exact⟨a4,c4,D,fun hp=>zK (E hp) A⟩
 | 7 =>
  obtain⟨mb,D,E,h3,h4⟩:=h;refine⟨mb,D,E,fun hp=>?_,fun h=>absurd h hp⟩;obtain⟨h5,xr,h6⟩:=h3 hp;have xH:=(yY.1 h6).1;exact⟨zl h5 A xH,xr,(A.block mb xH).trans h6⟩
 | j+8=>trivial
theorem dm_last {v:Value}:∀j,j≠8->DM b2 B base next a cap l c False V j v->(j=7->DM b2 B base next a cap l c True V' 7 v)->DM b2 B base next a cap l c True V' j v:=by
 intro j hj h h7
 match j with
 | 0|2|3|4|5=>exact h
 | 1=>obtain⟨a4,c4,D,E⟩:=h;exact⟨a4,c4,D,fun hp=>absurd trivial hp⟩
 | 6=>obtain⟨a4,c4,D,E⟩:=h;exact⟨a4,c4,D,fun hp=>absurd trivial hp⟩
 | 7=>exact h7 rfl
 | j+8=>trivial
end
theorem matS_next {mb B:Nat}{W:World}{next:Int}{vq:Value}{l:List Od}{t:Od}{vt:Value}{ts:List Ev}(h:MatS mb B W next vq l t vt ts)(n':Int):MatS mb B (W.setCell (U mb 0) (H n')) n' vq l t vt ts:=by
 have hoth:∀j,j≠0->(W.setCell (U mb 0) (H n')).cell? (U mb j)=W.cell? (U mb j):=fun j hj=>yL _ _ _ _ (eu (fun e=>hj e.symm));have jn:(W.setCell (U mb 0) (H n')).cell? (U mb 0)=some (H n'):=yM _ _ _ (h.cells 0 _ rfl);refine⟨?_,fun j hj=>⟨?_,?_⟩,dT h.orow h.nq 0 _,dT h.erow h.nt 0 _,by obtain⟨xr,hc⟩:=h.box;exact fd W mb 0 _ hc,by have:=h.le;simpa[World.setCell] using this⟩
 ·intro j u hj;rw[Nat.zero_add];rcases j with _ | j
  ·cases hj;exact jn
  ·rw[hoth (j+1) (by omega)];have:W.cell? (U mb (0+(j+1)))=some u:=h.cells (j+1) u hj;rwa[Nat.zero_add] at this
 ·rw[Nat.zero_add];rcases j with _ | j
  ·rw[jn];rfl
  ·rw[hoth (j+1) (by omega)];have:=(h.there (j+1) hj).1;rwa[Nat.zero_add] at this
 ·rw[World.frozen?_setCell];exact(h.there j hj).2
theorem iU {mb B:Nat}{W W':World}{next:Int}{vq:Value}{l:List Od}{t:Od}{vt:Value}{ts:List Ev}(h:MatS mb B W next vq l t vt ts)(A:yn W W'):MatS mb B W' next vq l t vt ts:=
 ⟨zd h.cells A h.lt,zl h.there A h.lt,zK h.orow A,fc h.erow A,by obtain⟨xr,hc⟩:=h.box;exact⟨xr,(A.block mb h.lt).trans hc⟩,yN h.le A.size⟩
def meas (mb:Nat)(W:World):Nat:=(match W.cell? (U mb 1) with|some (.slice _ n _)=>2*n | _=>0)+(match W.cell? (U mb 5) with|some (.int _ n)=>if 0<n then 1 else 0 | _=>0)
theorem meas_eq {mb B:Nat}{W:World}{next:Int}{vq:Value}{l:List Od}{t:Od}{vt:Value}{ts:List Ev}(h:MatS mb B W next vq l t vt ts):meas mb W=2*l.length+(if 0<t.left then 1 else 0):=by
 have D:W.cell? (U mb 1)=some vq:=h.cells 1 _ rfl;have h5:W.cell? (U mb 5)=some (H t.left):=h.cells 5 _ rfl
 have hq:∃a c,vq = .slice a l.length c:=by
  rcases h.orow.2 with⟨e,e2⟩|⟨g,cap,xr,e,_⟩
  ·exact⟨none,0,by rw[e,e2]⟩
  ·exact⟨_,_,e⟩
 obtain⟨a,c,rfl⟩:=hq;rw[meas,D,h5]
theorem match_end {w W3 W8:World}{mb:Nat}{next:Int}{vq vt:Value}{l:List Od}{t:Od}{ts:List Ev}(hM:MatS mb W3.heap.size W8 next vq l t vt ts)(hK:KeptBut mb W3.heap.size W3 W8)(A:yn w W3)(hs:W3.heap.size=w.heap.size+1+1+1)(hm:W3.heap.size<=mb)(vs:List Value)(hv:vs.length=9)(ht:W8.there (w.heap.size+1+1) 0 9) :
  (W8.setCells (w.heap.size+1+1) 0 vs).rangeAt (w.heap.size+1+1) 0 vs/\ORow (W8.setCells (w.heap.size+1+1) 0 vs) w.heap.size vq l/\ERow (W8.setCells (w.heap.size+1+1) 0 vs) w.heap.size vt ts/\yn w (W8.setCells (w.heap.size+1+1) 0 vs):=by
 have hb8:yn w W8:=⟨hK.os.trans A.os,hK.tape.trans A.tape,hK.output.trans A.output,yN A.size hK.size,fun k X=>(hK.block k (by omega) (by omega)).trans (A.block k X)⟩;have pf:yn w (W8.setCells (w.heap.size+1+1) 0 vs):=zg (w.heap.size+1+1) (by omega) vs 0 W8 hb8
 have vY:W8.grownBy (W8.setCells (w.heap.size+1+1) 0 vs) (some (w.heap.size+1+1)):=by
  have h9:∀(us:List Value) (o:Nat) (hk:World),hk.grownBy (hk.setCells (w.heap.size+1+1) o us) (some (w.heap.size+1+1)):=by
   intro us
   induction us with
   | nil=>intro o hk;exact⟨rfl,rfl,rfl,Nat.le_refl _,fun _ _ _=>rfl⟩
   | cons u r ih =>
    intro o hk;have D:hk.grownBy (hk.setCell (U (w.heap.size+1+1) o) u) (some (w.heap.size+1+1)):=⟨rfl,rfl,rfl,by simp[World.setCell],fun k _ X=>yS _ _ _ _ (fun e=>X (by rw[e]))⟩;exact D.trans (ih (o+1) _)
  exact h9 vs 0 W8
 have n4:∀v:Value,(∀g,v.ownBlock=some g->W3.heap.size<=g)->v.ownBlock=none\/v.ownBlock≠some (w.heap.size+1+1):=fun v hv=>.inr (fun e=>by have:=hv _ e;omega);exact⟨yX W8 _ 0 vs (fun j hj=>ht j (by omega)),ex (hM.orow.kept vY (n4 vq (fun g M=>(hM.orow.lt g M).1))) (by omega),ex (hM.erow.kept vY (n4 vt (fun g M=>(hM.erow.lt g M).1))) (by omega),pf⟩
def SdV (V:World)(v:Value)(l:List Od)(sd:Int):Prop:=(sd=1/\∃b,v=fo b/\dQ 249 true V b 1 (zB l 1))\/(¬ sd=1/\∃b,v=fq b/\dQ 252 false V b sd (zB l sd))
def FrV (V:World)(v:Value)(l:List Od)(sd:Int):Prop:=(sd=1/\∃b,v = .func (.func 156) #[xj b 0] #[]/\dQ 249 true V b 1 (zB l 1))\/(¬ sd=1/\∃b,v = .func (.func 160) #[xj b 0] #[]/\dQ 252 false V b sd (zB l sd))
theorem field0_bm (b:Nat)(W:World):Sem.run Tryz.prog (Instr.field 133 (fo b) 0) W = .ok (.func (.func 156) #[xj b 0] #[]) W:=by kernel_rfl
theorem field0_sm (b:Nat)(W:World):Sem.run Tryz.prog (Instr.field 133 (fq b) 0) W = .ok (.func (.func 160) #[xj b 0] #[]) W:=by kernel_rfl
def DQ (mb b3:Nat)(base:World)(BV:Value)(s sd:Int)(l:List Od)(x:Od)(fb:Bool)(p:Prop)(V:World):Nat->Value->Prop
 | 0,v=>v=xj mb 0
 | 1,v=>v=BV
 | 2,v=>v=xj b3 0
 | 3,v=>v=H s
 | 4,v=>v=H sd
 | 5,v=>¬ p->SdV V v l sd
 | 6,v=>¬ p->FrV V v l sd
 | 7,v=>v = .tuple #[.agg (yw x.id x.side x.ticks x.left x.life x.tag).toArray,.bool fb]
 | 8,v=>v = .tuple #[.agg (yw x.id x.side x.ticks x.left x.life x.tag).toArray,.bool fb]
 | 9,v=>v = .agg (yw x.id x.side x.ticks x.left x.life x.tag).toArray
 | 10,v=>v = .bool fb
 | 11,v=>∃pb,v=xj pb 0/\base.heap.size<=pb/\(¬ p->V.there pb 0 6/\pb<V.heap.size)/\(p->V.rangeAt pb 0 x.vs/\pb<V.heap.size)
 | 13,v=>v = .bool fb
 | _,_=>True
section
variable {mb b3:Nat} {base V V':World} {BV:Value} {s sd:Int} {l:List Od} {x:Od} {fb:Bool} {p:Prop}
theorem dq_grow (hp:¬ p)(A:yn V V'):∀j v,DQ mb b3 base BV s sd l x fb p V j v->DQ mb b3 base BV s sd l x fb p V' j v:=by
 intro j v h
 match j with
 | 0|1|2|3|4|7|8|9|10|13=>exact h
 | 5 =>
  intro hp;rcases h hp with⟨D,b,E,h3⟩|⟨D,b,E,h3⟩
  ·exact .inl ⟨D,b,E,zH h3 (A.block _ (zZ h3))⟩
  ·exact .inr ⟨D,b,E,zH h3 (A.block _ (zZ h3))⟩
 | 6 =>
  intro hp;rcases h hp with⟨D,b,E,h3⟩|⟨D,b,E,h3⟩
  ·exact .inl ⟨D,b,E,zH h3 (A.block _ (zZ h3))⟩
  ·exact .inr ⟨D,b,E,zH h3 (A.block _ (zZ h3))⟩
 | 11 =>
  obtain⟨pb,D,E,h3,h4⟩:=h;refine⟨pb,D,E,fun hp=>?_,fun h=>absurd h hp⟩;obtain⟨h5,h6⟩:=h3 hp;exact⟨zl h5 A h6,yJ h6 A.size⟩
 | 12=>trivial
 | j+14=>trivial
theorem dq_last {v:Value}:∀j,j≠12->DQ mb b3 base BV s sd l x fb False V j v->(j=11->DQ mb b3 base BV s sd l x fb True V' 11 v)->DQ mb b3 base BV s sd l x fb True V' j v:=by
 intro j hj h jz
 match j with
 | 0|1|2|3|4|7|8|9|10|13=>exact h
 | 5=>exact fun hp=>absurd trivial hp
 | 6=>exact fun hp=>absurd trivial hp
 | 11=>exact jz rfl
 | 12=>trivial
 | j+14=>trivial
end
def backC:Nat->List Oper->Bool
 | _,[]=>true
 | i,o::r=>o.after.toList.all (fun e=>!Region.binds .any e||decide (e.on<i))&&backC (i+1) r
theorem backC_spec:∀(l:List Oper) (n:Nat),backC n l=true->∀(i:Nat) (o:Oper),l[i]? = some o->∀e∈o.after,Region.binds .any e=true->e.on<n+i
 | [],_,_,i,o,h,_,_,_=>by simp at h
 | a::r,n,A,0,o,h,e,he,hbd=>by
  simp at h;subst h;simp only[backC,xe,List.all_eq_true] at A;have:=A.1 e (by simpa using he);rw[hbd] at this;simpa using this
 | a::r,n,A,i+1,o,h,e,he,hbd=>by
  simp only[backC,xe] at A;have:=backC_spec r (n+1) A.2 i o (by simpa using h) e he hbd;omega
theorem iw {l:List Oper}{x:List Bool}(h:Region.ready .any l.toArray x.toArray = [])(hx:x.length=l.length)(A:backC 0 l=true):∀i,i<l.length->x[i]? = some true:=by
 intro i
 induction i using Nat.strongRecOn with
 | _ i ih =>
  intro hi;refine ready_none h hx i l[i] (yH hi) fun e he hbd=>?_;have:=backC_spec l 0 A i l[i] (yH hi) e he hbd;exact ih e.on (by omega) (by omega)
end Go.Proofs.YtbghmldggahjiaaGreatDoor
