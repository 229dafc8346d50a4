/-.-/
import Derived.Test.YtkofhemdefffpaaGreatDoorPq02
import Derived.Test.YtkofhemdefffpaaGreatDoorPq03
import Derived.Test.YtkofhemdefffpaaGreatDoorPq04
set_option linter.unusedVariables false
set_option maxHeartbeats 6400000
set_option maxRecDepth 100000
namespace Go.Proofs.YtkofhemdefffpaaGreatDoor
open Go.RowKit
def fm (b:Nat):Value:=.agg #[.func (.func 170) #[h3 b 0] #[],.func (.func 171) #[h3 b 0] #[],.func (.func 172) #[h3 b 0] #[]]
theorem ask_s (b:Nat)(w:World) :
  Calls Tryz.prog 135 #[h3 b 0] w fun e w'=>e=yn (fm b)/\yp w w':=by
 have hmf:∀(fn:Fn) (first cap:Array Value) (w:World),(Instr.makeFunc fn first cap).run Tryz.prog w = .ok (.func fn first cap) w:=fun _ _ _ _=>rfl;go_enter Tryz.func135,Tryz.ntmps135;go_wp2_with fail;go_returns;refine⟨rfl,?_⟩;go_grown
theorem count_setT:∀(x:List Bool) (i:Nat),x[i]? = some false->(x.set i true).count true=x.count true+1
 | [],i,h=>by simp at h
 | b::r,0,h=>by simp at h;subst h;simp
 | b::r,i+1,h=>by
  have ih:=count_setT r i (by simpa using h);simp only[List.set_cons_succ,List.count_cons];omega
def RS (B0:Nat->World->Prop)(hg:(Nat->Value)->Act)(k:Nat)(ho:Prop->World->Nat->Value->Prop)(x:List Bool)(md:Act)(W:World):Prop:=
 ∃f,md=hg f/\(¬ x[k]? = some true->B0 (x.count true) W)/\∀j,x[j]? = some true->ho (x[k]? = some true) W j (f j)
section
variable {B0:Nat->World->Prop} {W W':World} {k:Nat} {ho:Prop->World->Nat->Value->Prop} {x:List Bool} {f:Nat->Value}
theorem eH (h:∀j,x[j]? = some true->ho (x[k]? = some true) W j (f j)){i:Nat}(hik:i≠k)(xA:x[i]? = some false)(hm:∀j v,ho (x[k]? = some true) W j v->ho (x[k]? = some true) W' j v)(hB:B0 (x.count true+1) W'){v:Value}(hv:ho (x[k]? = some true) W' i v) :
  (¬ (x.set i true)[k]? = some true->B0 ((x.set i true).count true) W')/\∀j,(x.set i true)[j]? = some true->ho ((x.set i true)[k]? = some true) W' j (upd f i v j):=by
 refine⟨fun _=>by rw[count_setT x i xA];exact hB,fun j hj=>?_⟩;rw[yX hik]
 by_cases hji:j=i
 ·subst hji;rw[zp];exact hv
 ·rw[zu _ _ hji];rw[yX (fun e=>hji e.symm)] at hj;exact hm _ _ (h j hj)
theorem rs_last (h:∀j,x[j]? = some true->ho (x[k]? = some true) W j (f j))(E:x[k]? = some false)(hm:∀j,j≠k->x[j]? = some true->ho False W j (f j)->ho True W' j (f j)){v:Value}(hv:ho True W' k v) :
  (¬ (x.set k true)[k]? = some true->B0 ((x.set k true).count true) W')/\∀j,(x.set k true)[j]? = some true->ho ((x.set k true)[k]? = some true) W' j (upd f k v j):=by
 have e:((x.set k true)[k]? = some true)=True:=by
  rw[List.getElem?_set_self (yH.1 E).1];simp
 refine⟨fun hn=>absurd (by rw[e];trivial) hn,fun j hj=>?_⟩;rw[e]
 by_cases hji:j=k
 ·subst hji;rw[zp];exact hv
 ·rw[zu _ _ hji];rw[yX (fun e=>hji e.symm)] at hj;refine hm j hji hj ?_;have:=h j hj;rw[E] at this;simpa using this
end
theorem lE (next:Int)(v:Value)(l:List Od)(w:World)(hr:RdR Od.vs 6 w v l)(hn:l.length<=20)(hl:∀o'∈l,0<=o'.left/\o'.left<=1000000) :
  Calls Tryz.prog 110 #[.agg #[H next,v],H 1] w fun e w' =>
   ∃b,e=yn (fj b)/\dI 261 true w' b 1 (zC l 1)/\w.heap.size<=b/\yp w w':=by
 have HR:=U hr;have HL:=U hl;obtain⟨a,cap,rfl,xC,hc⟩:=hr;have xG:=zi w (me #[H next,.slice a l.length cap] 31);have r1:=zm (w.alloc (me #[H next,.slice a l.length cap] 31)) [.nilFunc,.nilFunc,.nilFunc] 177;have t1:=gI (n:=3) (heap_alloc_new (w.alloc (me #[H next,.slice a l.length cap] 31)) (me #[.nilFunc,.nilFunc,.nilFunc] 177)) (by simp);rw[xG] at r1 t1;have ug:((w.alloc (me #[H next,.slice a l.length cap] 31)).alloc (me #[.nilFunc,.nilFunc,.nilFunc] 177)).heap.size=w.heap.size+1+1:=by rw[zi,xG]
 have vf:Hid (yp w ((w.alloc (me #[H next,.slice a l.length cap] 31)).alloc (me #[.nilFunc,.nilFunc,.nilFunc] 177))):=
  (mc _ _).alloc (by rw[xG];omega) _
 have HX:Hid (_/\_):=⟨r1,t1⟩;have xZ:=U ug;clear r1 t1 xG ug hc hl;go_enter Tryz.func110,Tryz.ntmps110;go_wp2_with fail;generalize ((w.alloc (me #[H next,.slice a l.length cap] 31)).alloc (me #[.nilFunc,.nilFunc,.nilFunc] 177))=W2 at vf HX xZ |-;refine(plant_b _ l 1 W2 (zq (O HR) (O vf) yb) hn (O HL)).mono ?_;rintro e w1 ⟨rfl,htr,ud⟩;have qU:=U htr;have ui:=U ud;clear htr ud;go_wp2_with fail;refine(ask_b W2.heap.size w1).mono ?_;rintro e w2 ⟨rfl,xy⟩;have bH:=U (zI (O qU) (xy.block _ (ed (O qU))));have oG:=(O ui).trans (xy.mono (O ui).size);obtain⟨x1,x2⟩:=O HX;have y1:=zf x1 oG (by rw[O xZ];omega);have y2:=zk x2 oG (by rw[O xZ];omega);have xz:=U (mf (O vf) oG);have c0:w2.cell? (Y (w.heap.size+1) 0)=some .nilFunc:=y1 0 _ rfl;have c1:w2.cell? (Y (w.heap.size+1) 1)=some .nilFunc:=y1 1 _ rfl;have c2:w2.cell? (Y (w.heap.size+1) 2)=some .nilFunc:=y1 2 _ rfl;have f0:w2.frozen? (Y (w.heap.size+1) 0)=false:=(y2 0 (by omega)).2;have f1:w2.frozen? (Y (w.heap.size+1) 1)=false:=(y2 1 (by omega)).2;have f2:w2.frozen? (Y (w.heap.size+1) 2)=false:=(y2 2 (by omega)).2;clear xy oG x1 x2 y1 y2;unfold fj;generalize hF0:Value.func (.func 166) #[yq W2 0] #[]=F0;generalize hF1:Value.func (.func 167) #[yq W2 0] #[]=F1;generalize hF2:Value.func (.func 168) #[yq W2 0] #[]=F2
 have qm:∀(W:World) (o:Nat) (m:Mode),((store (Y (w.heap.size+1) o) F0 m).run Tryz.prog W=stored Tryz.prog W (Y (w.heap.size+1) o) F0 m)/\((store (Y (w.heap.size+1) o) F1 m).run Tryz.prog W=stored Tryz.prog W (Y (w.heap.size+1) o) F1 m)/\((store (Y (w.heap.size+1) o) F2 m).run Tryz.prog W=stored Tryz.prog W (Y (w.heap.size+1) o) F2 m):=fun W o m=>by
  subst hF0 hF1 hF2;exact⟨run_store _ W _ _ m rfl,run_store _ W _ _ m rfl,run_store _ W _ _ m rfl⟩
 have hst0:=fun W o m=>(qm W o m).1;have hst1:=fun W o m=>(qm W o m).2.1;have hst2:=fun W o m=>(qm W o m).2.2;clear qm;go_wp2_with fail;have hn01:((Y (w.heap.size+1) 0):Addr)≠(Y (w.heap.size+1) 1):=fun e=>by simp at e
 have hn02:((Y (w.heap.size+1) 0):Addr)≠(Y (w.heap.size+1) 2):=fun e=>by simp at e
 have hn12:((Y (w.heap.size+1) 1):Addr)≠(Y (w.heap.size+1) 2):=fun e=>by simp at e
 have d2:(((w2.setCell (Y (w.heap.size+1) 0) F0).setCell (Y (w.heap.size+1) 1) F1).setCell (Y (w.heap.size+1) 2) F2).cell? (Y (w.heap.size+1) 2)=some F2:=
  yN _ _ _ ((yM _ _ _ _ hn12).trans ((yM _ _ _ _ hn02).trans c2))
 have d1:(((w2.setCell (Y (w.heap.size+1) 0) F0).setCell (Y (w.heap.size+1) 1) F1).setCell (Y (w.heap.size+1) 2) F2).cell? (Y (w.heap.size+1) 1)=some F1:=
  (yM _ _ _ _ hn12.symm).trans (yN _ _ _ ((yM _ _ _ _ hn01).trans c1))
 have d0:(((w2.setCell (Y (w.heap.size+1) 0) F0).setCell (Y (w.heap.size+1) 1) F1).setCell (Y (w.heap.size+1) 2) F2).cell? (Y (w.heap.size+1) 0)=some F0:=
  (yM _ _ _ _ hn02.symm).trans ((yM _ _ _ _ hn01.symm).trans (yN _ _ _ c0))
 have xE:W2.heap.size≠w.heap.size+1:=by rw[O xZ];omega
 have HT5:=U (zI (O bH) (w':=((w2.setCell (Y (w.heap.size+1) 0) F0).setCell (Y (w.heap.size+1) 1) F1).setCell (Y (w.heap.size+1) 2) F2) ((yT _ _ _ _ xE).trans ((yT _ _ _ _ xE).trans (yT _ _ _ _ xE))));have uY:=U ((((O xz).setCell (p:=(Y (w.heap.size+1) 0)) (by simp) F0).setCell (p:=(Y (w.heap.size+1) 1)) (by simp) F1).setCell (p:=(Y (w.heap.size+1) 2)) (by simp) F2);generalize ((w2.setCell (Y (w.heap.size+1) 0) F0).setCell (Y (w.heap.size+1) 1) F1).setCell (Y (w.heap.size+1) 2) F2=W5 at *
 try simp only[Exit.inBlock,Exit.then]
 refine bodyPost_ret (by simp[results,Tryz.results110,go_sem,d0,d1,d2];try rfl) rfl ?_;refine⟨W2.heap.size,?_,O HT5,by rw[O xZ];omega,O uY⟩;subst hF0 hF1 hF2;rfl
theorem ly (next:Int)(sd:Int)(uF:¬ sd=1)(v:Value)(l:List Od)(w:World)(hr:RdR Od.vs 6 w v l)(hn:l.length<=20)(hl:∀o'∈l,0<=o'.left/\o'.left<=1000000) :
  Calls Tryz.prog 110 #[.agg #[H next,v],H sd] w fun e w' =>
   ∃b,e=yn (fm b)/\dI 264 false w' b sd (zC l sd)/\w.heap.size<=b/\yp w w':=by
 have HR:=U hr;have HL:=U hl;obtain⟨a,cap,rfl,xC,hc⟩:=hr;have xG:=zi w (me #[H next,.slice a l.length cap] 31);have r1:=zm (w.alloc (me #[H next,.slice a l.length cap] 31)) [.nilFunc,.nilFunc,.nilFunc] 177;have t1:=gI (n:=3) (heap_alloc_new (w.alloc (me #[H next,.slice a l.length cap] 31)) (me #[.nilFunc,.nilFunc,.nilFunc] 177)) (by simp);rw[xG] at r1 t1;have ug:((w.alloc (me #[H next,.slice a l.length cap] 31)).alloc (me #[.nilFunc,.nilFunc,.nilFunc] 177)).heap.size=w.heap.size+1+1:=by rw[zi,xG]
 have vf:Hid (yp w ((w.alloc (me #[H next,.slice a l.length cap] 31)).alloc (me #[.nilFunc,.nilFunc,.nilFunc] 177))):=
  (mc _ _).alloc (by rw[xG];omega) _
 have HX:Hid (_/\_):=⟨r1,t1⟩;have xZ:=U ug;clear r1 t1 xG ug hc hl;go_enter Tryz.func110,Tryz.ntmps110;go_wp2_with fail;generalize ((w.alloc (me #[H next,.slice a l.length cap] 31)).alloc (me #[.nilFunc,.nilFunc,.nilFunc] 177))=W2 at vf HX xZ |-;refine(plant_s _ l sd W2 (zq (O HR) (O vf) yb) hn (O HL)).mono ?_;rintro e w1 ⟨rfl,htr,ud⟩;have qU:=U htr;have ui:=U ud;clear htr ud;go_wp2_with fail;refine(ask_s W2.heap.size w1).mono ?_;rintro e w2 ⟨rfl,xy⟩;have bH:=U (zI (O qU) (xy.block _ (ed (O qU))));have oG:=(O ui).trans (xy.mono (O ui).size);obtain⟨x1,x2⟩:=O HX;have y1:=zf x1 oG (by rw[O xZ];omega);have y2:=zk x2 oG (by rw[O xZ];omega);have xz:=U (mf (O vf) oG);have c0:w2.cell? (Y (w.heap.size+1) 0)=some .nilFunc:=y1 0 _ rfl;have c1:w2.cell? (Y (w.heap.size+1) 1)=some .nilFunc:=y1 1 _ rfl;have c2:w2.cell? (Y (w.heap.size+1) 2)=some .nilFunc:=y1 2 _ rfl;have f0:w2.frozen? (Y (w.heap.size+1) 0)=false:=(y2 0 (by omega)).2;have f1:w2.frozen? (Y (w.heap.size+1) 1)=false:=(y2 1 (by omega)).2;have f2:w2.frozen? (Y (w.heap.size+1) 2)=false:=(y2 2 (by omega)).2;clear xy oG x1 x2 y1 y2;unfold fm;generalize hF0:Value.func (.func 170) #[yq W2 0] #[]=F0;generalize hF1:Value.func (.func 171) #[yq W2 0] #[]=F1;generalize hF2:Value.func (.func 172) #[yq W2 0] #[]=F2
 have qm:∀(W:World) (o:Nat) (m:Mode),((store (Y (w.heap.size+1) o) F0 m).run Tryz.prog W=stored Tryz.prog W (Y (w.heap.size+1) o) F0 m)/\((store (Y (w.heap.size+1) o) F1 m).run Tryz.prog W=stored Tryz.prog W (Y (w.heap.size+1) o) F1 m)/\((store (Y (w.heap.size+1) o) F2 m).run Tryz.prog W=stored Tryz.prog W (Y (w.heap.size+1) o) F2 m):=fun W o m=>by
  subst hF0 hF1 hF2;exact⟨run_store _ W _ _ m rfl,run_store _ W _ _ m rfl,run_store _ W _ _ m rfl⟩
 have hst0:=fun W o m=>(qm W o m).1;have hst1:=fun W o m=>(qm W o m).2.1;have hst2:=fun W o m=>(qm W o m).2.2;clear qm;go_wp2_with fail;have hn01:((Y (w.heap.size+1) 0):Addr)≠(Y (w.heap.size+1) 1):=fun e=>by simp at e
 have hn02:((Y (w.heap.size+1) 0):Addr)≠(Y (w.heap.size+1) 2):=fun e=>by simp at e
 have hn12:((Y (w.heap.size+1) 1):Addr)≠(Y (w.heap.size+1) 2):=fun e=>by simp at e
 have d2:(((w2.setCell (Y (w.heap.size+1) 0) F0).setCell (Y (w.heap.size+1) 1) F1).setCell (Y (w.heap.size+1) 2) F2).cell? (Y (w.heap.size+1) 2)=some F2:=
  yN _ _ _ ((yM _ _ _ _ hn12).trans ((yM _ _ _ _ hn02).trans c2))
 have d1:(((w2.setCell (Y (w.heap.size+1) 0) F0).setCell (Y (w.heap.size+1) 1) F1).setCell (Y (w.heap.size+1) 2) F2).cell? (Y (w.heap.size+1) 1)=some F1:=
  (yM _ _ _ _ hn12.symm).trans (yN _ _ _ ((yM _ _ _ _ hn01).trans c1))
 have d0:(((w2.setCell (Y (w.heap.size+1) 0) F0).setCell (Y (w.heap.size+1) 1) F1).setCell (Y (w.heap.size+1) 2) F2).cell? (Y (w.heap.size+1) 0)=some F0:=
  (yM _ _ _ _ hn02.symm).trans ((yM _ _ _ _ hn01.symm).trans (yN _ _ _ c0))
 have xE:W2.heap.size≠w.heap.size+1:=by rw[O xZ];omega
 have HT5:=U (zI (O bH) (w':=((w2.setCell (Y (w.heap.size+1) 0) F0).setCell (Y (w.heap.size+1) 1) F1).setCell (Y (w.heap.size+1) 2) F2) ((yT _ _ _ _ xE).trans ((yT _ _ _ _ xE).trans (yT _ _ _ _ xE))));have uY:=U ((((O xz).setCell (p:=(Y (w.heap.size+1) 0)) (by simp) F0).setCell (p:=(Y (w.heap.size+1) 1)) (by simp) F1).setCell (p:=(Y (w.heap.size+1) 2)) (by simp) F2);generalize ((w2.setCell (Y (w.heap.size+1) 0) F0).setCell (Y (w.heap.size+1) 1) F1).setCell (Y (w.heap.size+1) 2) F2=W5 at *
 try simp only[Exit.inBlock,Exit.then]
 refine bodyPost_ret (by simp[results,Tryz.results110,go_sem,d0,d1,d2];try rfl) rfl ?_;refine⟨W2.heap.size,?_,O HT5,by rw[O xZ];omega,O uY⟩;subst hF0 hF1 hF2;rfl
def hdO (q:List Od):Od:=(q.head?).getD zOd
def hdF (q:List Od):Bool:=(q.head?).isSome
theorem frOf_eq (q:List Od):frOf q = .tuple #[.agg (yx ((hdO q).id) ((hdO q).side) ((hdO q).ticks) ((hdO q).left) ((hdO q).life) ((hdO q).tag)).toArray,.bool (hdF q)]:=by
 unfold frOf hdO hdF;cases q.head? <;> rfl
def tkR (x:Nat):Nat:=(FloatKind.f64.format.mul x 4616189618054758400).getD 0
def tkN (x:Nat):Int:=((FloatKind.f64.decode (tkR x)).toInt .zero).getD 0
def tkOk (x:Nat):Bool:=(FloatKind.f64.format.order x 0==some Ordering.gt)&&((FloatKind.f64.format.order x 4687829947429945344==some Ordering.lt)||(FloatKind.f64.format.order x 4687829947429945344==some Ordering.eq)) &&
 (FloatKind.f64.format.order (floatOfInt .f64 (tkN x)) (tkR x)==some Ordering.eq)
def tk (x:Nat):Int:=if tkOk x=true then tkN x else 0
theorem ls (x:Nat)(w:World) :
  Calls Tryz.prog 140 #[yk x] w fun e w'=>e=yn (.tuple #[H (tk x),.bool (tkOk x)])/\w'=w:=by
 by_cases h0:FloatKind.f64.format.order x 0=some Ordering.gt
 ·by_cases Z:FloatKind.f64.format.order x 4687829947429945344=some Ordering.lt\/FloatKind.f64.format.order x 4687829947429945344=some Ordering.eq
  ·obtain⟨r,n,kG,bU,hn⟩:=price_four h0 Z;have hn':(n:Int)<9007199254740992:=by omega
   have eR:tkR x=r:=by unfold tkR;rw[show FloatKind.f64.format.mul x 4616189618054758400=some r from kG];rfl
   have eN:tkN x=n:=by unfold tkN;rw[eR,show(FloatKind.f64.decode r).toInt .zero=some (n:Int) from bU];rfl
   have b0:(FloatKind.f64.format.order x 0==some Ordering.gt)=true:=by rw[h0];rfl
   have hm:∀W,(binOp .mul 35 (yk x) (yk 4616189618054758400)).run Tryz.prog W = .ok (yk r) W:=fun W=>by
    have:FloatKind.f64.format.mul x 4616189618054758400=some r:=kG;simp[binOp,Op.floatArith,this]
   have hc:∀W,(convert 35 3 (yk r)).run Tryz.prog W = .ok (H n) W:=fun W=>by
    have Q:(FloatKind.f64.decode r).toInt .zero=some (n:Int):=bU
    have K:IntKind.i64.min<=(n:Int)/\(n:Int)<=IntKind.i64.max:=by
     rw[show IntKind.i64.min = -9223372036854775808 by decide,show IntKind.i64.max=9223372036854775807 by decide];omega
    simp[convert,run_underlying Tryz.underlying35,run_underlying Tryz.underlying3,Conv.floatToInt,Q,K.1];intro h;omega
   have qP:((FloatKind.f64.format.order x 4687829947429945344==some Ordering.lt)||(FloatKind.f64.format.order x 4687829947429945344==some Ordering.eq))=true:=by
    rcases Z with Z|Z <;> rw[Z] <;> rfl
   have uA:tkOk x=(FloatKind.f64.format.order (floatOfInt .f64 n) r==some Ordering.eq):=by unfold tkOk;rw[eN,eR,b0,qP];rfl
   clear kG bU h0 qP;cases he:(FloatKind.f64.format.order (floatOfInt .f64 n) r==some Ordering.eq)
   all_goals
    have he2:(FloatKind.f64.format.order (floatOfInt .f64 n) r != some Ordering.eq) = !(FloatKind.f64.format.order (floatOfInt .f64 n) r==some Ordering.eq):=rfl;rw[he] at he2;rw[he] at uA
   ·have HT:Hid (tk x=0/\tkOk x=false):=⟨by unfold tk;rw[uA];rfl,uA⟩;clear uA eN eR;rcases Z with Z|Z
    ·have b1:(FloatKind.f64.format.order x 4687829947429945344==some Ordering.lt)=true:=by rw[Z];rfl
     have b2:(FloatKind.f64.format.order x 4687829947429945344==some Ordering.eq)=false:=by rw[Z];rfl
     clear Z;go_enter Tryz.func140,Tryz.ntmps140;go_wp2;go_ret2;exact⟨by rw[(O HT).1,(O HT).2];rfl,rfl⟩
    ·have b1:(FloatKind.f64.format.order x 4687829947429945344==some Ordering.lt)=false:=by rw[Z];rfl
     have b2:(FloatKind.f64.format.order x 4687829947429945344==some Ordering.eq)=true:=by rw[Z];rfl
     clear Z;go_enter Tryz.func140,Tryz.ntmps140;go_wp2;go_ret2;exact⟨by rw[(O HT).1,(O HT).2];rfl,rfl⟩
   ·have HT:Hid (tk x=n/\tkOk x=true):=⟨by unfold tk;rw[uA,eN];rfl,uA⟩;clear uA eN eR;rcases Z with Z|Z
    ·have b1:(FloatKind.f64.format.order x 4687829947429945344==some Ordering.lt)=true:=by rw[Z];rfl
     have b2:(FloatKind.f64.format.order x 4687829947429945344==some Ordering.eq)=false:=by rw[Z];rfl
     clear Z;go_enter Tryz.func140,Tryz.ntmps140;go_wp2;go_ret2;exact⟨by rw[(O HT).1,(O HT).2];rfl,rfl⟩
    ·have b1:(FloatKind.f64.format.order x 4687829947429945344==some Ordering.lt)=false:=by rw[Z];rfl
     have b2:(FloatKind.f64.format.order x 4687829947429945344==some Ordering.eq)=true:=by rw[Z];rfl
     clear Z;go_enter Tryz.func140,Tryz.ntmps140;go_wp2;go_ret2;exact⟨by rw[(O HT).1,(O HT).2];rfl,rfl⟩
  ·have b0:(FloatKind.f64.format.order x 0==some Ordering.gt)=true:=by rw[h0];rfl
   have b1:(FloatKind.f64.format.order x 4687829947429945344==some Ordering.lt)=false:=by rw[xe];exact fun h=>Z (.inl h)
   have b2:(FloatKind.f64.format.order x 4687829947429945344==some Ordering.eq)=false:=by rw[xe];exact fun h=>Z (.inr h)
   have uA:tkOk x=false:=by unfold tkOk;rw[b0,b1,b2];rfl
   have HT:Hid (tk x=0/\tkOk x=false):=⟨by unfold tk;rw[uA];rfl,uA⟩;clear h0 Z uA;go_enter Tryz.func140,Tryz.ntmps140;go_wp2;go_ret2;exact⟨by rw[(O HT).1,(O HT).2];rfl,rfl⟩
 ·have b0:(FloatKind.f64.format.order x 0==some Ordering.gt)=false:=by rw[xe];exact h0
  have uA:tkOk x=false:=by unfold tkOk;rw[b0];rfl
  have HT:Hid (tk x=0/\tkOk x=false):=⟨by unfold tk;rw[uA];rfl,uA⟩;clear h0 uA;go_enter Tryz.func140,Tryz.ntmps140;go_wp2;go_ret2;exact⟨by rw[(O HT).1,(O HT).2];rfl,rfl⟩
end Go.Proofs.YtkofhemdefffpaaGreatDoor
namespace Go.Proofs.YtkofhemdefffpaaGreatDoor
open Go Ieee
theorem read_place {x:Nat}{s:Bool}{m:Nat}{i:Int}(h:double.read x = .number s m i):-1074<=i:=by
 unfold Format.read at h;simp only[bin,inf,sw,lp] at h;split at h
 ·simp only[Datum.number.injEq] at h;omega
 ·split at h
  ·simp only[Datum.number.injEq] at h;omega
  ·split at h <;> cases h
theorem cut_pos {n drop:Nat}(h:2 ^ drop<=n):0<Toward.even.cut false n drop:=by
 unfold Toward.cut;simp only
 have F:1 <<< min drop (n.log2+2)<=n:=by
  rw[Nat.one_shiftLeft];exact yO (Nat.pow_le_pow_right (by decide) (Nat.min_le_left _ _)) h
 have hp:0<1 <<< min drop (n.log2+2):=by rw[Nat.one_shiftLeft];exact Nat.two_pow_pos _
 have:=Nat.div_pos F hp;omega
theorem near_pos {m:Nat}{i:Int}(hm:m≠0)(hi:-1074<=i):0<double.nearest false (m*4503599627370496) (i + -50):=by
 have hmag:¬ m*4503599627370496=0:=by omega
 have hlog:=log_up hm
 have Q:2 ^ (m.log2+52)<=m*4503599627370496:=by
  have h:=((Nat.log2_eq_iff hm).1 rfl).1;rw[Nat.pow_add,show(2:Nat) ^ 52=4503599627370496 from rfl];exact Nat.mul_le_mul_right _ h
 unfold Format.nearest;rw[if_neg hmag];simp only[hlog,fb,lp,bin,inf,Format.word,Bool.false_eq_true,if_false];have hlast:i + -50+((m.log2+52:Nat):Int)-(52:Nat)<=max (i + -50+((m.log2+52:Nat):Int)-(52:Nat)) (-1074):=Int.le_max_left _ _;have hup:max (i + -50+((m.log2+52:Nat):Int)-(52:Nat)) (-1074)<=i + -50+((m.log2+52:Nat):Int):=Int.max_le.2 ⟨by omega,by omega⟩;generalize max (i + -50+((m.log2+52:Nat):Int)-(52:Nat)) (-1074)=last at *;have e0:(i + -50-last).toNat=0:=by omega
 rw[e0,Nat.shiftLeft_zero];have hc:=cut_pos (n:=m*4503599627370496) (drop:=(last-(i + -50)).toNat) (yO (Nat.pow_le_pow_right (by decide) (by omega)) Q);generalize Toward.even.cut false (m*4503599627370496) (last-(i + -50)).toNat=kept at *;omega
theorem four_pos {x r:Nat}(h0:double.order x 0=some .gt)(Z:double.order x 4687829947429945344=some .lt\/double.order x 4687829947429945344=some .eq)(hr:double.mul x 4616189618054758400=some r):double.order 0 r≠some .eq:=by
 rcases above_zero h0 with hx|⟨m,i,hx,hm⟩
 ·exfalso;unfold Format.order at Z;rw[hx,read_top] at Z;simp[Datum.order] at Z
 ·have hw:=within hx hm Z
  have kG:double.mul x 4616189618054758400=some (double.nearest false (m*4503599627370496) (i + -50)):=by
   unfold Format.mul;rw[hx,read_four];rfl
  rw[kG] at hr;have hr:=Option.some.inj hr;have jL:=near_pos hm (read_place hx);have xK:=near_le hm hw;rw[hr] at jL xK;clear hr kG;have hneg:(r / 9223372036854775808 % 2==1)=false:=by simp;omega
  have hrr:r % 9223372036854775808=r:=by omega
  obtain⟨m',i',e,hm'⟩:∃m' i',double.read r = .number false m' i'/\m'≠0:=by
   unfold Format.read;simp only[bin,inf,sw,hneg,hrr,lp];split
   ·exact⟨_,_,rfl,by omega⟩
   ·rw[if_pos (by omega)];exact⟨_,_,rfl,by omega⟩
  unfold Format.order;rw[read_zero,e];simp only[Datum.order,ne_eq,Option.some.injEq];intro h;have h:=Std.LawfulEqCmp.eq_of_compare h;simp only[signed,Bool.false_eq_true,if_false,Nat.shiftLeft_eq,Nat.zero_mul] at h;have xE:m'*2 ^ (i'-min (-1074) i').toNat≠0:=Nat.mul_ne_zero hm' (Nat.pos_iff_ne_zero.1 (Nat.two_pow_pos _));omega
end Go.Proofs.YtkofhemdefffpaaGreatDoor
namespace Go.Proofs.YtkofhemdefffpaaGreatDoor
open Go.RowKit
def sideL_b (b:Nat):List Value:=[.func (.func 166) #[h3 b 0] #[],.func (.func 167) #[h3 b 0] #[],.func (.func 168) #[h3 b 0] #[]]
def sideL_s (b:Nat):List Value:=[.func (.func 170) #[h3 b 0] #[],.func (.func 171) #[h3 b 0] #[],.func (.func 172) #[h3 b 0] #[]]
abbrev Tb (w:World)(b:Nat)(q:List Od):Prop:=dI 261 true w b 1 q
abbrev Ts (w:World)(b:Nat)(q:List Od):Prop:=dI 264 false w b 2 q
section
variable {W0 w w':World} {BV:Value} {q1 q2:List Od} {x:List Bool} {v33 v34 v35 v36 v5 v6:Value} {b1 b2 p5 p6:Nat}
theorem zM (w:World)(cs:List Value)(t:TypeId):(w.alloc (Obj.cells cs.toArray t)).there w.heap.size 0 cs.length:=gI (heap_alloc_new w _) (by simp)
end
structure Ev where
 kind:Int
 cmd:Cm
 id:Int
 other:Int
 qty:Int
 price:Int
 reason:Int
def cmV (c:Cm):Value:=.agg (yy c.k c.s c.t c.l c.q c.i c.p c.g).toArray
def evV (e:Ev):Value:=.agg (yw e.kind e.cmd.k e.cmd.s e.cmd.t e.cmd.l e.cmd.q e.cmd.i e.cmd.p e.cmd.g e.id e.other e.qty e.price e.reason).toArray
def vlV (e:Ev):Value:=.agg #[H e.kind,H e.id,H e.other,H e.qty,H e.price,H e.reason,H e.cmd.k,H e.cmd.s,H e.cmd.t,H e.cmd.l,H e.cmd.q,H e.cmd.i,.int .u64 (fbit e.cmd.p),yl e.cmd.g]
def Ev.vs (e:Ev):List Value:=(yw e.kind e.cmd.k e.cmd.s e.cmd.t e.cmd.l e.cmd.q e.cmd.i e.cmd.p e.cmd.g e.id e.other e.qty e.price e.reason)
theorem Ev.len (e:Ev):e.vs.length=14:=rfl
def zCm:Cm:=⟨0,0,0,0,0,0,0,⟨#[]⟩⟩
theorem insT_len (s:Bool)(k:Int):∀T:List Int,(insT s k T).length<=T.length+1
 | []=>by simp[insT]
 | a::r=>by
  have:=insT_len s k r;rw[insT];split
  ·simp
  ·split <;> simp <;> omega
theorem tks_len (s:Bool):∀seq:List Od,(tks s seq).length<=seq.length
 | []=>by simp[tks]
 | o::r=>by
  have Z:=insT_len s o.ticks (tks s r);have Q:=tks_len s r;rw[tks];simp;omega
def backB:Nat->List Oper->Bool
 | _,[]=>true
 | i,o::r=>o.after.toList.all (fun e=>decide (e.on<i))&&backB (i+1) r
theorem back_spec:∀(l:List Oper) (n:Nat),backB n l=true->∀(i:Nat) (o:Oper),l[i]? = some o->∀e∈o.after,e.on<n+i
 | [],_,_,i,o,h,_,_=>by simp at h
 | a::r,n,K,0,o,h,e,he=>by
  simp at h;subst h;simp only[backB,xf,List.all_eq_true,xg] at K;exact K.1 e (by simpa using he)
 | a::r,n,K,i+1,o,h,e,he=>by
  simp only[backB,xf] at K;have:=back_spec r (n+1) K.2 i o (by simpa using h) e he;omega
theorem acyc (l:List Oper)(h:backB 0 l=true):∀(i:Nat) (o:Oper),l[i]? = some o->∀e∈o.after,e.on<i:=fun i o D e he=>by
 have:=back_spec l 0 h i o D e he;omega
def C10 (b1 b2 p5 p6 N1 N2:Nat):Nat->Value->Prop
 | 0,v=>v=h3 p5 2
 | 1,v=>v = .func (.func 168) #[h3 b1 0] #[]
 | 2,v=>∃a c,v = .slice a N1 c
 | 3,v=>v=H N1
 | 4,v=>v=h3 p6 2
 | 5,v=>v = .func (.func 172) #[h3 b2 0] #[]
 | 6,v=>∃a c,v = .slice a N2 c
 | 7,v=>v=H N2
 | 8,v=>v=H ((N1:Int)+N2)
 | 9,v=>v=H ((N1:Int)+N2)
 | _,_=>True
theorem lU (b1 b2:Nat)(sd1 sd2:Int)(s1 s2:List Od)(w:World)(Z:dI 261 true w b1 sd1 s1)(Q:dI 264 false w b2 sd2 s2)(n1:s1.length<=20)(n2:s2.length<=20) :
  Calls Tryz.prog 109 #[fj b1,fm b2] w fun e w'=>e=yn (H (((dS true sd1 s1).length:Int)+(dS false sd2 s2).length))/\yp w w':=by
 have ud:=ed Z;have xy:=ed Q;generalize hL1:(dS true sd1 s1).length=N1;generalize hL2:(dS false sd2 s2).length=N2;have hN1:N1<=20:=by rw[<- hL1,dS,List.length_map];exact yO (tks_len _ _) n1
 have hN2:N2<=20:=by rw[<- hL2,dS,List.length_map];exact yO (tks_len _ _) n2
 have HLL:Hid ((dS true sd1 s1).length=N1/\(dS false sd2 s2).length=N2):=⟨hL1,hL2⟩;have xG:=zi w (me (sideL_b b1).toArray 177);have ug:((w.alloc (me (sideL_b b1).toArray 177)).alloc (me (sideL_s b2).toArray 177)).heap.size=w.heap.size+1+1:=by rw[zi,xG]
 have r0:=zm w (sideL_b b1) 177;have r1:=zm (w.alloc (me (sideL_b b1).toArray 177)) (sideL_s b2) 177;rw[xG] at r1;have r0':=zf r0 (C:=w.heap.size+1) ((Below.refl _ _).alloc (by rw[xG];omega) (me (sideL_s b2).toArray 177)) (by omega);have vf:Hid (yp w ((w.alloc (me (sideL_b b1).toArray 177)).alloc (me (sideL_s b2).toArray 177))):=(mc _ _).alloc (by rw[xG];omega) _;have HR5:=U r0';have HR6:=U r1;have xZ:=U ug;have ke:=U (zI Z ((O vf).block _ ud));have qg:=U (zI Q ((O vf).block _ xy));clear r0 r1 r0' xG ug hL1 hL2 Z Q;unfold fj fm;go_enter Tryz.func109,Tryz.ntmps109;go_wp2_with fail;unfold sideL_b sideL_s at vf HR5 HR6 xZ ke qg;generalize hW:((w.alloc (me (List.toArray [.func (.func 166) #[h3 b1 0] #[],.func (.func 167) #[h3 b1 0] #[],.func (.func 168) #[h3 b1 0] #[]]) 177)).alloc (me (List.toArray [.func (.func 170) #[h3 b2 0] #[],.func (.func 171) #[h3 b2 0] #[],.func (.func 172) #[h3 b2 0] #[]]) 177))=W at vf HR5 HR6 xZ ke qg;have hb1s:b1<W.heap.size:=ed (O ke);have hb2s:b2<W.heap.size:=ed (O qg);have hp5:w.heap.size<W.heap.size:=by rw[O xZ];omega
 have hp6:w.heap.size+1<W.heap.size:=by rw[O xZ];omega
 refine iS (RGrow W (fun f=>{ tmps:=#[fj b1,fm b2,yq w 0,h3 (w.heap.size+1) 0,f 9,f 0,f 1,f 2,f 3,f 4,f 5,f 6,f 7,f 8],defers:=[] }) (C10 b1 b2 w.heap.size (w.heap.size+1) N1 N2)) (by kernel_rfl) ?_ ?_ ?_
 ·refine⟨upd (fun _=>M) 9 (H 0),rfl,?_,fun j hj=>by rw[yJ] at hj;split at hj <;> simp at hj⟩;rw[<- hW];exact⟨rfl,rfl,rfl,Nat.le_refl _,fun _ _=>rfl⟩
 ·rintro x md V ⟨f,rfl,xl,hC⟩ hx xY;have hall9:=eM xY hx (acyc _ (by kernel_rfl)) 9 (by simp);have e9:f 9=H ((N1:Int)+N2):=hC 9 hall9;simp only[e9];have xI:=U xl;clear hC hx xY hall9 e9 xl;go_wp2_with fail;go_ret;exact⟨rfl,(O vf).trans ((O xI).mono (O vf).size)⟩
 ·rintro x md V i o ⟨f,rfl,xl,hC⟩ hx D xA X;have xI:=U xl;have HC:=U hC
  match i,D with
  | 0,D =>
   cases D;clear X hC xl;go_simp;exact⟨upd f 0 (yq w 2),by simp[upd],O xI,zP (O HC) rfl⟩
  | 1,D =>
   cases D;have g0:C10 b1 b2 w.heap.size (w.heap.size+1) N1 N2 0 (f 0):=hC 0 (yf X 0 rfl);simp only[C10] at g0;have d2:=zf (O HR5) xl hp5 2 _ rfl;clear X hC xl;go_simp;exact⟨upd f 1 (.func (.func 168) #[h3 b1 0] #[]),by simp[upd,g0],O xI,zP (O HC) rfl⟩
  | 2,D =>
   cases D;have g1:C10 b1 b2 w.heap.size (w.heap.size+1) N1 N2 1 (f 1):=hC 1 (yf X 1 rfl);simp only[C10] at g1;have ht:=zI (O ke) (xl.block _ hb1s);have pZ:=U ht;clear X hC xl ht;go_simp;refine(levels_b b1 sd1 s1 V (O pZ) n1).mono ?_;rintro e w4 ⟨v4,rfl,⟨al,cp,rfl,-,-⟩,xF⟩;rw[(O HLL).1];exact⟨upd f 2 (.slice al N1 cp),by simp[upd,g1],(O xI).trans (xF.mono (O xI).size),zP (O HC) ⟨al,cp,rfl⟩⟩
  | 3,D =>
   cases D;have g2:C10 b1 b2 w.heap.size (w.heap.size+1) N1 N2 2 (f 2):=hC 2 (yf X 2 rfl);obtain⟨al,cp,g2⟩:=g2;clear X hC xl;go_simp;exact⟨upd f 3 (H N1),by simp[upd,g2],O xI,zP (O HC) rfl⟩
  | 4,D =>
   cases D;clear X hC xl;go_simp;exact⟨upd f 4 (h3 (w.heap.size+1) 2),by simp[upd],O xI,zP (O HC) rfl⟩
  | 5,D =>
   cases D;have g4:C10 b1 b2 w.heap.size (w.heap.size+1) N1 N2 4 (f 4):=hC 4 (yf X 4 rfl);simp only[C10] at g4;have d2:=zf (O HR6) xl hp6 2 _ rfl;clear X hC xl;go_simp;exact⟨upd f 5 (.func (.func 172) #[h3 b2 0] #[]),by simp[upd,g4],O xI,zP (O HC) rfl⟩
  | 6,D =>
   cases D;have g5:C10 b1 b2 w.heap.size (w.heap.size+1) N1 N2 5 (f 5):=hC 5 (yf X 5 rfl);simp only[C10] at g5;have ht:=zI (O qg) (xl.block _ hb2s);have pZ:=U ht;clear X hC xl ht;go_simp;refine(levels_s b2 sd2 s2 V (O pZ) n2).mono ?_;rintro e w4 ⟨v4,rfl,⟨al,cp,rfl,-,-⟩,xF⟩;rw[(O HLL).2];exact⟨upd f 6 (.slice al N2 cp),by simp[upd,g5],(O xI).trans (xF.mono (O xI).size),zP (O HC) ⟨al,cp,rfl⟩⟩
  | 7,D =>
   cases D;have g6:C10 b1 b2 w.heap.size (w.heap.size+1) N1 N2 6 (f 6):=hC 6 (yf X 6 rfl);obtain⟨al,cp,g6⟩:=g6;clear X hC xl;go_simp;exact⟨upd f 7 (H N2),by simp[upd,g6],O xI,zP (O HC) rfl⟩
  | 8,D =>
   cases D;have g3:C10 b1 b2 w.heap.size (w.heap.size+1) N1 N2 3 (f 3):=hC 3 (yf X 3 rfl);have g7:C10 b1 b2 w.heap.size (w.heap.size+1) N1 N2 7 (f 7):=hC 7 (yf X 7 rfl);simp only[C10] at g3;simp only[C10] at g7;have hwr8:IntKind.i64.wrap ((N1:Int)+N2)=(N1:Int)+N2:=by rw[IntKind.wrap_i64];omega
   clear X hC xl;go_simp;exact⟨upd f 8 (H ((N1:Int)+N2)),by simp[upd,g3,g7],O xI,zP (O HC) rfl⟩
  | 9,D =>
   cases D;have g8:C10 b1 b2 w.heap.size (w.heap.size+1) N1 N2 8 (f 8):=hC 8 (yf X 8 rfl);simp only[C10] at g8;clear X hC xl;go_simp;exact⟨upd f 9 (H ((N1:Int)+N2)),by simp[upd,g8],O xI,zP (O HC) rfl⟩
  | n+10,D=>simp at D
def allR (next:Int):Int->List Od->Bool
 | _,[]=>true
 | last,o::r=>ordB o&&decide (last<o.id)&&decide (o.id<next)&&allR next o.id r
theorem lI {next:Int}:∀ {l:List Od} {last:Int},allR next last l=true->dQ l/\∀o∈l,last<o.id
 | [],_,_=>⟨by simp[dQ],by simp⟩
 | a::r,last,h=>by
  simp only[allR,xf,xg] at h;obtain⟨ih1,ih2⟩:=lI h.2;refine⟨List.pairwise_cons.2 ⟨ih2,ih1⟩,fun o D=>?_⟩;rcases List.mem_cons.1 D with rfl|D
  ·exact h.1.1.2
  ·have:=ih2 o D;have:=h.1.1.2;omega
theorem allR_sides {next:Int}:∀ {l:List Od} {last:Int},allR next last l=true->∀o∈l,ordB o=true
 | [],_,_=>by simp
 | a::r,last,h=>by
  simp only[allR,xf,xg] at h;intro o D;rcases List.mem_cons.1 D with rfl|D
  ·exact h.1.1.1
  ·exact allR_sides h.2 o D
def xB (a b:Od):Bool:=!(decide (a.side=1)&&decide (b.side=2))||decide (a.ticks<b.ticks)
def noX (l:List Od):Bool:=l.all fun a=>l.all fun b=>xB a b
theorem noX_iff (l:List Od):noX l=true ↔ ∀a∈l,a.side=1->∀b∈l,b.side=2->a.ticks<b.ticks:=by
 simp only[noX,List.all_eq_true,xB,Bool.or_eq_true,Bool.not_eq_true',Bool.and_eq_false_iff,decide_eq_false_iff_not,xg];constructor
 ·intro h a ha Z b K Q;rcases h a ha b K with(I|I)|I
  ·exact absurd Z I
  ·exact absurd Q I
  ·exact I
 ·intro h a ha b K
  by_cases Z:a.side=1
  ·by_cases Q:b.side=2
   ·exact .inr (h a ha Z b K Q)
   ·exact .inl (.inr Q)
  ·exact .inl (.inl Z)
theorem noX_none1 {l:List Od}(h:∀o∈l,o.side≠1):noX l=true:=(noX_iff l).2 fun a ha Z=>absurd Z (h a ha)
theorem noX_none2 {l:List Od}(h:∀o∈l,o.side≠2):noX l=true:=(noX_iff l).2 fun a ha Z b K Q=>absurd Q (h b K)
theorem noX_fronts {l:List Od}{i j:Nat}{a b:Od}(ha:ik true l 1 i a)(K:ik false l 2 j b):noX l=decide (a.ticks<b.ticks):=by
 rw[Bool.eq_iff_iff,noX_iff,xg];constructor
 ·exact fun h=>h a (yP ha.1) ha.2.1 b (yP K.1) K.2.1
 ·intro h x hx Z y hy Q;obtain⟨m,hm⟩:=List.mem_iff_getElem?.1 hx;obtain⟨n,hn⟩:=List.mem_iff_getElem?.1 hy
  have hxa:x.ticks<=a.ticks:=by
   by_cases bZ:m=i
   ·subst bZ;rw[ha.1] at hm;obtain rfl:=Option.some.inj hm;exact Int.le_refl _
   ·rcases ha.2.2 m x hm Z bZ with I|I
    ·simp only[bt] at I;omega
    ·omega
  have hyb:b.ticks<=y.ticks:=by
   by_cases hnj:n=j
   ·subst hnj;rw[K.1] at hn;obtain rfl:=Option.some.inj hn;exact Int.le_refl _
   ·rcases K.2.2 n y hn Q hnj with I|I
    ·simp only[bt] at I;omega
    ·omega
  omega
theorem frPre_end {l:List Od}{sd:Int}{k:Int}(h:FrPre l sd l.length k):(k = -1/\∀o∈l,o.side≠sd) \/ ∃(i:Nat) (o:Od),k=i/\i<l.length/\ik (decide (sd=1)) l sd i o:=by
 rcases h with⟨rfl,h⟩|⟨i,o,rfl,Z,Q,I,h4⟩
 ·refine .inl ⟨rfl,fun o D=>?_⟩;obtain⟨j,hj⟩:=List.mem_iff_getElem?.1 D;exact h j o (yH.1 hj).1 hj
 ·exact .inr ⟨i,o,rfl,Z,Q,I,fun j o' D hs xE=>h4 j o' (yH.1 D).1 D hs xE⟩
def okS (next:Int)(l:List Od):Bool:=betB next 1 1000000&&decide (l.length<=20)&&allR next 0 l&&(decide (nlev l<=8)&&noX l)

theorem front_head {s:Bool}{l:List Od}{sd:Int}(hr:dQ l):((quOf s (zC l sd)).head? = none/\∀o∈l,o.side≠sd) \/ ∃i o,(quOf s (zC l sd)).head? = some o/\ik s l sd i o:=by
 cases h:(quOf s (zC l sd)).head? with
 | none=>exact .inl ⟨rfl,queue_none (eG s _) h⟩
 | some o =>
  obtain⟨i,hi⟩:=queue_front hr (eG s _) h;exact .inr ⟨i,o,rfl,hi⟩
def noV (c:Cm):Value:=.agg #[H c.s,H c.t,H c.l,H c.q,yk c.p,yl c.g]
def dj (t:Int):Bool:=decide (t=1)||decide (t=5)
def prcB (c:Cm):Bool:=if c.t=2 then decide (fbit c.p=0) else tkOk c.p
def dL (c:Cm)(o:Od):Bool:=if c.t=2 then true else if c.s=1 then decide (o.ticks<=tk c.p) else decide (tk c.p<=o.ticks)
def ordO (c:Cm)(id:Int):Od:=⟨id,c.s,tk c.p,c.q,c.l,c.g⟩
def othS (s:Int):Int:=if s=1 then 2 else 1
theorem isType_any (t:Int)(w:World) :
  Calls Tryz.prog 176 #[H t] w fun e w'=>e=yn (.bool (betB t 1 5))/\w'=w:=by
 go_enter Tryz.func176,Tryz.ntmps176;go_wp2_with fail;refine(iQ t 1 5 w).mono ?_;rintro e w' ⟨rfl,rfl⟩;go_wp2_with fail;go_ret;exact⟨rfl,rfl⟩
theorem isQty_any (t:Int)(w:World) :
  Calls Tryz.prog 179 #[H t] w fun e w'=>e=yn (.bool (betB t 1 1000000))/\w'=w:=by
 go_enter Tryz.func179,Tryz.ntmps179;go_wp2_with fail;refine(iQ t 1 1000000 w).mono ?_;rintro e w' ⟨rfl,rfl⟩;go_wp2_with fail;go_ret;exact⟨rfl,rfl⟩
theorem otherSide_any (s:Int)(w:World) :
  Calls Tryz.prog 163 #[H s] w fun e w'=>e=yn (H (othS s))/\w'=w:=by
 by_cases h:s=1
 ·subst h;go_enter Tryz.func163,Tryz.ntmps163;go_wp2_with fail;go_ret;exact⟨rfl,rfl⟩
 ·have h':(s==1)=false:=by simpa using h
  have HS:Hid (othS s=1):=if_neg h;go_enter Tryz.func163,Tryz.ntmps163;go_wp2_with fail;go_ret;exact⟨zt (O HS).symm,rfl⟩
theorem iI (c:Cm)(w:World) :
  Calls Tryz.prog 165 #[noV c] w fun e w'=>e=yn (.bool (dj c.t))/\yp w w':=by
 obtain⟨k,s,t,l,q,i,p,g⟩:=c;unfold noV;simp only
 by_cases Z:t=1
 ·subst Z;go_enter Tryz.func165,Tryz.ntmps165;go_wp2_with fail;go_ret;exact⟨rfl,by go_grown⟩
 ·have b1:(t==1)=false:=by simpa using Z
  by_cases h5:t=5
  ·subst h5;go_enter Tryz.func165,Tryz.ntmps165;go_wp2_with fail;go_ret;exact⟨rfl,by go_grown⟩
  ·have b5:(t==5)=false:=by simpa using h5
   have HR:Hid (dj t=false):=by show dj t=false;simp[dj,Z,h5]
   go_enter Tryz.func165,Tryz.ntmps165;go_wp2_with fail;go_ret;exact⟨zB (O HR).symm,by go_grown⟩
theorem hasPrice_any (c:Cm)(w:World) :
  Calls Tryz.prog 178 #[noV c] w fun e w'=>e=yn (.bool (prcB c))/\yp w w':=by
 obtain⟨k,s,t,l,q,i,p,g⟩:=c;unfold noV;simp only;have HB:Hid (yp w (w.alloc (me #[H s,H t,H l,H q,yk p,yl g] 142))):=mc _ _
 by_cases Q:t=2
 ·subst Q;have HP:Hid (prcB ⟨k,s,2,l,q,i,p,g⟩=decide (fbit p=0)):=if_pos rfl;go_enter Tryz.func178,Tryz.ntmps178;go_wp2_with fail;refine(floatBits_any p _).mono ?_;rintro e w' ⟨rfl,rfl⟩;go_wp2_with fail;go_ret;exact⟨zB (by rw[O HP,Bool.eq_iff_iff];simp),O HB⟩
 ·have b2:(t==2)=false:=by simpa using Q
  have HP:Hid (prcB ⟨k,s,t,l,q,i,p,g⟩=tkOk p):=if_neg Q;go_enter Tryz.func178,Tryz.ntmps178;go_wp2_with fail;refine(ls p _).mono ?_;rintro e w' ⟨rfl,rfl⟩;go_wp2_with fail;go_ret;exact⟨zB (O HP).symm,O HB⟩
theorem meets_any (c:Cm)(o:Od)(w:World) :
  Calls Tryz.prog 164 #[noV c,.agg (yx o.id o.side o.ticks o.left o.life o.tag).toArray] w fun e w'=>e=yn (.bool (dL c o))/\yp w w':=by
 obtain⟨k,s,t,l,q,i,p,g⟩:=c;obtain⟨id,side,ticks,left,life,tag⟩:=o;unfold noV;simp only;have HB:Hid (yp w ((w.alloc (me #[H s,H t,H l,H q,yk p,yl g] 142)).alloc (me (yx id side ticks left life tag).toArray 71))):=(mc _ _).alloc (by rw[zi];omega) _
 by_cases Q:t=2
 ·subst Q;have HP:Hid (dL ⟨k,s,2,l,q,i,p,g⟩ ⟨id,side,ticks,left,life,tag⟩=true):=if_pos rfl;go_enter Tryz.func164,Tryz.ntmps164;go_wp2_with fail;go_ret;exact⟨zB (O HP).symm,O HB⟩
 ·have b2:(t==2)=false:=by simpa using Q
  by_cases Z:s=1
  ·subst Z;have HP:Hid (dL ⟨k,1,t,l,q,i,p,g⟩ ⟨id,side,ticks,left,life,tag⟩=decide (ticks<=tk p)):=by show _ = _;rw[dL,if_neg Q];rfl
   go_enter Tryz.func164,Tryz.ntmps164;go_wp2_with fail;refine(ls p _).mono ?_;rintro e w' ⟨rfl,rfl⟩;go_wp2_with fail;go_ret;exact⟨zB (O HP).symm,O HB⟩
  ·have b1:(s==1)=false:=by simpa using Z
   have HP:Hid (dL ⟨k,s,t,l,q,i,p,g⟩ ⟨id,side,ticks,left,life,tag⟩=decide (tk p<=ticks)):=by show _ = _;rw[dL,if_neg Q,if_neg Z]
   go_enter Tryz.func164,Tryz.ntmps164;go_wp2_with fail;refine(ls p _).mono ?_;rintro e w' ⟨rfl,rfl⟩;go_wp2_with fail;go_ret;exact⟨zB (O HP).symm,O HB⟩
theorem order_any (c:Cm)(id:Int)(w:World) :
  Calls Tryz.prog 121 #[noV c,H id] w fun e w'=>e=yn (.agg (yx id c.s (tk c.p) c.q c.l c.g).toArray)/\yp w w':=by
 obtain⟨k,s,t,l,q,i,p,g⟩:=c;unfold noV;simp only;go_enter Tryz.func121,Tryz.ntmps121;go_wp2_with fail;refine(ls p _).mono ?_;rintro e w' ⟨rfl,rfl⟩;go_wp2_with fail;go_returns;refine⟨rfl,?_⟩;go_grown
theorem toldNew_any (c:Cm)(w:World) :
  Calls Tryz.prog 232 #[noV c] w fun e w'=>e=yn (.agg (yy 1 c.s c.t c.l c.q 0 c.p c.g).toArray)/\yp w w':=by
 obtain⟨k,s,t,l,q,i,p,g⟩:=c;unfold noV;have hsf:=sfl;simp only;go_enter Tryz.func232,Tryz.ntmps232;go_wp2_with fail;go_returns;refine⟨rfl,?_⟩;go_grown
theorem toldCancel_any (i:Int)(w:World) :
  Calls Tryz.prog 250 #[.agg #[H i]] w fun e w'=>e=yn (.agg (yy 2 0 0 0 0 i 0 ⟨#[]⟩).toArray)/\yp w w':=by
 have hsf:=sfl;go_enter Tryz.func250,Tryz.ntmps250;go_wp2_with fail;go_returns;refine⟨rfl,?_⟩;go_grown
theorem toldReduce_any (i q:Int)(w:World) :
  Calls Tryz.prog 251 #[.agg #[H i,H q]] w fun e w'=>e=yn (.agg (yy 3 0 0 0 q i 0 ⟨#[]⟩).toArray)/\yp w w':=by
 have hsf:=sfl;go_enter Tryz.func251,Tryz.ntmps251;go_wp2_with fail;go_returns;refine⟨rfl,?_⟩;go_grown
theorem toldDay_any (w:World) :
  Calls Tryz.prog 252 #[.agg #[]] w fun e w'=>e=yn (.agg (yy 4 0 0 0 0 0 0 ⟨#[]⟩).toArray)/\yp w w':=by
 have hsf:=sfl;go_enter Tryz.func252,Tryz.ntmps252;go_wp2_with fail;go_returns;refine⟨rfl,?_⟩;go_grown
theorem l03Levels_any (v:Value)(l:List Od)(w:World)(hr:RdR Od.vs 6 w v l)(hn:l.length<=1000) :
  Calls Tryz.prog 26 #[v] w fun e w'=>e = .returned (H (nlev l:Nat))/\w.grownBy w' none:=by
 obtain⟨a,cap,rfl,xC,hc⟩:=hr
 have xp:∀(k:Nat) (c:Od),l[k]? = some c->∃b off,a=some (Y b off)/\b<w.heap.size/\w.rangeAt b (off+k*6) c.vs:=by
  intro k c E;obtain⟨b,off,Z,Q,I⟩:=hc (by intro h;rw[h] at E;simp at E);exact⟨b,off,Z,Q,I k c E⟩
 have HC:=U xp;clear xp hc;go_enter Tryz.func26,Tryz.ntmps26;go_wp2_with fail;go_loopw [3,4] (fun nv iv wr=>∃(i n:Nat),nv=H n/\i<=l.length/\iv=H i/\Hid (n=nlev (l.take i))/\n<=i/\w.grownBy wr none) (fun _ iv _=>l.length-(intOf iv).toNat)
 case atStart=>exact⟨0,0,rfl,Nat.zero_le _,rfl,by simp[Hid,nlev,nlevR],Nat.le_refl _,yS _ _⟩
 case round =>
  obtain⟨i,n,rfl,hi,rfl,hnl,ca,F⟩:=hrel;have HG:=U F;clear F
  by_cases xK:i<l.length
  ·obtain⟨c,vX⟩:∃c,l[i]? = some c:=⟨_,yI xK⟩;obtain⟨b,off,rfl,K,xo⟩:=O HC i c vX;have oQ:=U vX;have aN:=U xo;have ux:(i:Int)<l.length:=by omega
   have HNN:Hid (nlev (l.take (i+1))=n+(fR c (l.take i)).toNat):=by
    show _ = _;rw[takeR l i c vX,nlev_fresh,<- O hnl]
   clear vX xo hnl;go_wp2_with fail;go_loopw [5,6] (fun fv kv wq=>∃(k:Nat) (fb:Bool),fv = .bool fb/\k<=i/\kv=H k/\Hid (fb=fR c (l.take k))/\w.grownBy wq none) (fun _ kv _=>i-(intOf kv).toNat)
   case atStart=>exact⟨0,true,rfl,Nat.zero_le _,rfl,rfl,O HG⟩
   case round =>
    obtain⟨k,fb,rfl,E,rfl,pN,F⟩:=hrel;have HGQ:=U F;clear F
    by_cases hki:k<i
    ·obtain⟨y,hky⟩:∃y,l[k]? = some y:=⟨_,yI (by omega)⟩;obtain⟨b',qw,kD,cO,kE⟩:=O HC k y hky;simp only[Option.some.injEq,Addr.mk.injEq,and_true] at kD;obtain⟨rfl,rfl⟩:=kD
     have HFN:Hid (fR c (l.take (k+1))=(fb&&difB c y)):=by
      show _ = _;rw[takeR l k y hky,O pN,fR,List.all_append];simp[fR]
     obtain⟨-,e1,e2,-⟩:=zL (zv (O aN) (O HGQ) K (by simp));obtain⟨-,d1,d2,-⟩:=zL (zv kE (O HGQ) K (by simp));have hki':(k:Int)<i:=by omega
     have hkl':(k:Int)<l.length:=by omega
     have qX:∀(fb':Bool),fb'=(fb&&difB c y)->Hid (fb'=fR c (l.take (k+1))):=fun fb' h=>by show _ = _;rw[h,O HFN]
     have pS:=U qX;clear hky kE qX;cases fb
     ·go_wp2_with fail;go_quiet (fail);go_wp2_with fail;go_roundw
      case rel=>exact⟨k+1,false,rfl,by omega,by go_num,O pS _ rfl,gg (O HGQ) rfl rfl rfl rfl⟩
      case measure=>simp[intOf];omega
     ·by_cases Z:y.side=c.side
      ·have h1':(y.side != c.side)=false:=by simpa using Z
       by_cases Q:y.ticks=c.ticks
       ·have hd:(true&&difB c y)=false:=by simp[difB,Z,Q]
        go_wp2_with fail;go_quiet (fail);go_wp2_with fail;go_roundw
        case rel=>exact⟨k+1,false,by first|rfl|simp[Q],by omega,by go_num,O pS _ hd.symm,gg (O HGQ) rfl rfl rfl rfl⟩
        case measure=>simp[intOf];omega
       ·have hd:(true&&difB c y)=true:=by simp[difB,Q]
        go_wp2_with fail;go_quiet (fail);go_wp2_with fail;go_roundw
        case rel=>exact⟨k+1,true,by first|rfl|simp[Q],by omega,by go_num,O pS _ hd.symm,gg (O HGQ) rfl rfl rfl rfl⟩
        case measure=>simp[intOf];omega
      ·have h1':(y.side != c.side)=true:=by simpa using Z
       have hd:(true&&difB c y)=true:=by simp[difB,Z]
       go_wp2_with fail;go_quiet (fail);go_wp2_with fail;go_roundw
       case rel=>exact⟨k+1,true,by first|rfl|simp,by omega,by go_num,O pS _ hd.symm,gg (O HGQ) rfl rfl rfl rfl⟩
       case measure=>simp[intOf];omega
    ·obtain rfl:k=i:=by omega
     have HF:=pN;cases fb
     ·have HE:Hid (nlev (l.take (k+1))=n):=by show _ = _;rw[O HNN,<- O HF];rfl
      clear pN;go_wp2_with fail;exact⟨⟨k+1,n,rfl,by omega,by go_num,(O HE).symm,by omega,O HGQ⟩,by simp[intOf];omega⟩
     ·have HE:Hid (nlev (l.take (k+1))=n+1):=by show _ = _;rw[O HNN,<- O HF];rfl
      clear pN;go_wp2_with fail;exact⟨⟨k+1,n+1,by go_num,by omega,by go_num,(O HE).symm,by omega,O HGQ⟩,by simp[intOf];omega⟩
  ·go_wp2_with fail;go_ret;have h:=O hnl;rw[xa (by omega)] at h;subst h;exact⟨rfl,O HG⟩
theorem cells_madeV (w:World)(cs:List Value)(t:TypeId):(w.alloc (Obj.cells cs.toArray t)).rangeAt w.heap.size 0 cs:=fun j u h=>by
 rw[cell_of_row _ w.heap.size (0+j) cs.toArray t (0,0) (heap_alloc_new w _)];simpa using h
theorem size_madeV (w:World)(o:Obj):(w.alloc o).heap.size=w.heap.size+1:=by simp
theorem there_madeV (w:World)(cs:List Value)(t:TypeId):(w.alloc (Obj.cells cs.toArray t)).there w.heap.size 0 cs.length:=gI (heap_alloc_new w _) (by simp)
theorem valueOf_any (e:Ev)(w:World) :
  Calls Tryz.prog 174 #[evV e] w fun x w'=>x=yn (vlV e)/\yp w w':=by
 obtain⟨xn,⟨k,s,t,l,q,i,p,g⟩,id,xj,qty,xk,xi⟩:=e;unfold evV vlV;have hsf:=sfl;simp only;generalize pN:fbit p=fp;have HFB:=U (fun W=>pN ▸ floatBits_any p W);clear pN;have xG:(w.alloc (me (yw xn k s t l q i p g id xj qty xk xi).toArray 78)).heap.size=w.heap.size+1:=size_madeV _ _;have ug:((w.alloc (me (yw xn k s t l q i p g id xj qty xk xi).toArray 78)).alloc (me #[H 0,H 0,H 0,H 0,H 0,H 0,H 0,H 0,H 0,H 0,H 0,H 0,.int .u64 0,yl ⟨#[]⟩] 267)).heap.size=w.heap.size+2:=by rw[size_madeV,xG]
 have qv:(((w.alloc (me (yw xn k s t l q i p g id xj qty xk xi).toArray 78)).alloc (me #[H 0,H 0,H 0,H 0,H 0,H 0,H 0,H 0,H 0,H 0,H 0,H 0,.int .u64 0,yl ⟨#[]⟩] 267)).alloc (me (yy k s t l q i p g).toArray 37)).heap.size=w.heap.size+3:=by rw[size_madeV,ug]
 have b1:Below (w.heap.size+1) (w.alloc (me (yw xn k s t l q i p g id xj qty xk xi).toArray 78)) (((w.alloc (me (yw xn k s t l q i p g id xj qty xk xi).toArray 78)).alloc (me #[H 0,H 0,H 0,H 0,H 0,H 0,H 0,H 0,H 0,H 0,H 0,H 0,.int .u64 0,yl ⟨#[]⟩] 267)).alloc (me (yy k s t l q i p g).toArray 37)):=(((Below.refl _ _).alloc (by rw[xG];omega) _).alloc (by rw[ug];omega) _);have b2:Below (w.heap.size+2) ((w.alloc (me (yw xn k s t l q i p g id xj qty xk xi).toArray 78)).alloc (me #[H 0,H 0,H 0,H 0,H 0,H 0,H 0,H 0,H 0,H 0,H 0,H 0,.int .u64 0,yl ⟨#[]⟩] 267)) (((w.alloc (me (yw xn k s t l q i p g id xj qty xk xi).toArray 78)).alloc (me #[H 0,H 0,H 0,H 0,H 0,H 0,H 0,H 0,H 0,H 0,H 0,H 0,.int .u64 0,yl ⟨#[]⟩] 267)).alloc (me (yy k s t l q i p g).toArray 37)):=((Below.refl _ _).alloc (by rw[ug];omega) _);have r1:=zf (cells_madeV w (yw xn k s t l q i p g id xj qty xk xi) 78) b1 (by omega);have t2:=there_madeV (w.alloc (me (yw xn k s t l q i p g id xj qty xk xi).toArray 78)) [H 0,H 0,H 0,H 0,H 0,H 0,H 0,H 0,H 0,H 0,H 0,H 0,.int .u64 0,yl ⟨#[]⟩] 267;have r3:=cells_madeV ((w.alloc (me (yw xn k s t l q i p g id xj qty xk xi).toArray 78)).alloc (me #[H 0,H 0,H 0,H 0,H 0,H 0,H 0,H 0,H 0,H 0,H 0,H 0,.int .u64 0,yl ⟨#[]⟩] 267)) (yy k s t l q i p g) 37;rw[xG] at t2;rw[ug] at r3;have t2':=zk t2 b2 (by omega);have xL:Hid (yp w (((w.alloc (me (yw xn k s t l q i p g id xj qty xk xi).toArray 78)).alloc (me #[H 0,H 0,H 0,H 0,H 0,H 0,H 0,H 0,H 0,H 0,H 0,H 0,.int .u64 0,yl ⟨#[]⟩] 267)).alloc (me (yy k s t l q i p g).toArray 37))):=((mc _ _).alloc (by rw[xG];omega) _).alloc (by rw[ug];omega) _;have HX:Hid (_/\_/\_):=⟨r1,t2',r3⟩;clear r1 t2 t2' r3 b1 b2 xG ug qv;go_enter Tryz.func174,Tryz.ntmps174;go_wp2_with fail;generalize (((w.alloc (me (yw xn k s t l q i p g id xj qty xk xi).toArray 78)).alloc (me #[H 0,H 0,H 0,H 0,H 0,H 0,H 0,H 0,H 0,H 0,H 0,H 0,.int .u64 0,yl ⟨#[]⟩] 267)).alloc (me (yy k s t l q i p g).toArray 37))=WW at xL HX |-;obtain⟨km,jZ,vM⟩:=O HX;have x0:=km 0 _ rfl;have x1:=km 1 _ rfl;have x2:=km 2 _ rfl;have x3:=km 3 _ rfl;have x4:=km 4 _ rfl;have x5:=km 5 _ rfl;have x6:=km 6 _ rfl;have x7:=km 7 _ rfl;have x8:=km 8 _ rfl;have x9:=km 9 _ rfl;have cY:=km 10 _ rfl;have x11:=km 11 _ rfl;have x12:=km 12 _ rfl;have x13:=km 13 _ rfl;have y0:=vM 0 _ rfl;have y1:=vM 1 _ rfl;have y2:=vM 2 _ rfl;have y3:=vM 3 _ rfl;have y4:=vM 4 _ rfl;have y5:=vM 5 _ rfl;have y6:=vM 6 _ rfl;have y7:=vM 7 _ rfl;simp only[Nat.zero_add] at x0 x1 x2 x3 x4 x5 x6 x7 x8 x9 cY x11 x12 x13 y0 y1 y2 y3 y4 y5 y6 y7;obtain⟨v0,z0,f0⟩:=zN jZ 0 (by decide);obtain⟨v1,z1,f1⟩:=zN jZ 1 (by decide);obtain⟨v2,z2,f2⟩:=zN jZ 2 (by decide);obtain⟨v3,z3,f3⟩:=zN jZ 3 (by decide);obtain⟨v4,z4,f4⟩:=zN jZ 4 (by decide);obtain⟨v5,z5,f5⟩:=zN jZ 5 (by decide);obtain⟨v6,z6,f6⟩:=zN jZ 6 (by decide);obtain⟨v7,z7,f7⟩:=zN jZ 7 (by decide);obtain⟨v8,z8,f8⟩:=zN jZ 8 (by decide);obtain⟨v9,z9,f9⟩:=zN jZ 9 (by decide);obtain⟨v10,kI,f10⟩:=zN jZ 10 (by decide);obtain⟨v11,ox,f11⟩:=zN jZ 11 (by decide);obtain⟨v12,oO,f12⟩:=zN jZ 12 (by decide);obtain⟨v13,z13,f13⟩:=zN jZ 13 (by decide);simp only[Nat.zero_add] at z0 f0 z1 f1 z2 f2 z3 f3 z4 f4 z5 f5 z6 f6 z7 f7 z8 f8 z9 f9 kI f10 ox f11 oO f12 z13 f13;have HT:=U jZ;clear km jZ vM HX;refine wp_region_still_tail 30 (by kernel_rfl) (by kernel_rfl) ?_;simp only[yU,List.take_zero,yV,List.drop_zero]
 repeat still_step
 still_call (O HFB _)
 repeat still_step
 refine wpStill_nil ?_;go_wp2_with fail;change bodyPost _ _ _ _ _ (WW.setCells (w.heap.size+1) 0 [H xn,H id,H xj,H qty,H xk,H xi,H k,H s,H t,H l,H q,H i,.int .u64 fp,yl g]).drew;have kM:=U (yY WW (w.heap.size+1) 0 [H xn,H id,H xj,H qty,H xk,H xi,H k,H s,H t,H l,H q,H i,.int .u64 fp,yl g] (fun j hj=>O HT j hj));have qx:=U (zj (w.heap.size+1) (by omega) [H xn,H id,H xj,H qty,H xk,H xi,H k,H s,H t,H l,H q,H i,.int .u64 fp,yl g] 0 WW (O xL));generalize WW.setCells (w.heap.size+1) 0 [H xn,H id,H xj,H qty,H xk,H xi,H k,H s,H t,H l,H q,H i,.int .u64 fp,yl g]=WE at kM qx |-;obtain⟨d0,d1,d2,d3,d4,d5,d6,d7,d8,d9,pz,aa,ab,af⟩:=yG (O kM)
 try simp only[Exit.inBlock,Exit.then]
 refine bodyPost_ret (by simp[results,Tryz.results174,go_sem,d0,d1,d2,d3,d4,d5,d6,d7,d8,d9,pz,aa,ab,af];try rfl) rfl ?_;exact⟨rfl,(O qx).drew⟩

def RT (B0:World->Prop)(hg:(Nat->Value)->Act)(k h:Nat)(ho:Prop->Prop->World->Nat->Value->Prop)(x:List Bool)(md:Act)(W:World):Prop:=
 ∃f,md=hg f/\(¬ x[k]? = some true->B0 W)/\∀j,x[j]? = some true->ho (x[k]? = some true) (x[h]? = some true) W j (f j)
section
variable {B0:World->Prop} {W W':World} {k h:Nat} {ho:Prop->Prop->World->Nat->Value->Prop} {x:List Bool} {f:Nat->Value}
theorem eu (hh:∀j,x[j]? = some true->ho (x[k]? = some true) (x[h]? = some true) W j (f j)){i:Nat}(hik:i≠k)(hih:i≠h)(hm:∀j v,ho (x[k]? = some true) (x[h]? = some true) W j v->ho (x[k]? = some true) (x[h]? = some true) W' j v)(hB:¬ x[k]? = some true->B0 W'){v:Value}(hv:ho (x[k]? = some true) (x[h]? = some true) W' i v) :
  (¬ (x.set i true)[k]? = some true->B0 W')/\∀j,(x.set i true)[j]? = some true->ho ((x.set i true)[k]? = some true) ((x.set i true)[h]? = some true) W' j (upd f i v j):=by
 rw[yX hik,yX hih];refine⟨hB,fun j hj=>?_⟩
 by_cases hji:j=i
 ·subst hji;rw[zp];exact hv
 ·rw[zu _ _ hji];rw[yX (fun e=>hji e.symm)] at hj;exact hm _ _ (hh j hj)
theorem rt_one (hkh:k≠h)(hh:∀j,x[j]? = some true->ho (x[k]? = some true) (x[h]? = some true) W j (f j))(E:x[k]? = some false)(hn:¬ x[h]? = some true)(hm:∀j v,j≠k->ho False False W j v->ho True False W' j v){v:Value}(hv:ho True False W' k v) :
  (¬ (x.set k true)[k]? = some true->B0 W')/\∀j,(x.set k true)[j]? = some true->ho ((x.set k true)[k]? = some true) ((x.set k true)[h]? = some true) W' j (upd f k v j):=by
 have e:((x.set k true)[k]? = some true)=True:=by
  rw[List.getElem?_set_self (yH.1 E).1];simp
 have e2:((x.set k true)[h]? = some true)=False:=by
  rw[yX hkh];exact eq_false hn
 have e3:(x[h]? = some true)=False:=eq_false hn;have e4:(x[k]? = some true)=False:=by rw[E];simp
 rw[e,e2];refine⟨fun h=>absurd trivial h,fun j hj=>?_⟩
 by_cases hji:j=k
 ·subst hji;rw[zp];exact hv
 ·rw[zu _ _ hji];rw[yX (fun e=>hji e.symm)] at hj;have:=hh j hj;rw[e3,e4] at this;exact hm j _ hji this
theorem rt_two (hkh:h≠k)(hh:∀j,x[j]? = some true->ho (x[k]? = some true) (x[h]? = some true) W j (f j))(E:x[k]? = some true)(hn:x[h]? = some false)(hm:∀j,j≠h->x[j]? = some true->ho True False W j (f j)->ho True True W' j (f j)){v:Value}(hv:ho True True W' h v) :
  (¬ (x.set h true)[k]? = some true->B0 W')/\∀j,(x.set h true)[j]? = some true->ho ((x.set h true)[k]? = some true) ((x.set h true)[h]? = some true) W' j (upd f h v j):=by
 have e:((x.set h true)[h]? = some true)=True:=by
  rw[List.getElem?_set_self (yH.1 hn).1];simp
 have e2:((x.set h true)[k]? = some true)=True:=by
  rw[yX hkh,E];simp
 have e3:(x[h]? = some true)=False:=by rw[hn];simp
 have e4:(x[k]? = some true)=True:=by rw[E];simp
 rw[e,e2];refine⟨fun h=>absurd trivial h,fun j hj=>?_⟩
 by_cases hji:j=h
 ·subst hji;rw[zp];exact hv
 ·rw[zu _ _ hji];rw[yX (fun e=>hji e.symm)] at hj;have:=hh j hj;rw[e3,e4] at this;exact hm j hji hj this
end
def ofC (c:Cm):Ev:=⟨0,c,0,0,0,0,0⟩
def dd (c d:Cm):Bool:=(c.k==d.k)&&((c.s==d.s)&&((c.t==d.t)&&((c.l==d.l)&&((c.q==d.q)&&((c.i==d.i)&&((fbit c.p==fbit d.p)&&decide (c.g.toList=d.g.toList)))))))
theorem eqVl (c d:Cm)(W:World):(binOp .eql 267 (vlV (ofC c)) (vlV (ofC d))).run Tryz.prog W = .ok (.bool (dd c d)) W:=by
 unfold vlV ofC;simp only;go_simp;unfold dd
 by_cases Z:c.k=d.k
 ·by_cases Q:c.s=d.s
  ·by_cases I:c.t=d.t
   ·by_cases h4:c.l=d.l
    ·by_cases h5:c.q=d.q
     ·by_cases h6:c.i=d.i
      ·by_cases h7:fbit c.p=fbit d.p
       ·by_cases h8:c.g.toList=d.g.toList
        ·simp[Z,Q,I,h4,h5,h6,h7,h8]
        ·simp[Z,Q,I,h4,h5,h6,h7,h8]
       ·have h7':¬ ((fbit c.p:Int)=fbit d.p):=by omega
        have h7b:(fbit c.p==fbit d.p)=false:=by simpa using h7
        rw[if_neg h7',h7b];simp[Z,Q,I,h4,h5,h6]
      ·simp[Z,Q,I,h4,h5,h6]
     ·simp[Z,Q,I,h4,h5]
    ·simp[Z,Q,I,h4]
   ·simp[Z,Q,I]
  ·simp[Z,Q]
 ·simp[Z]
theorem eqGd (c d:Cm)(W:World):(eqGuard .eql 267 (.tmp 7) (.tmp 10) (vlV (ofC c)) (vlV (ofC d))).run Tryz.prog W = .ok () W:=by
 unfold vlV ofC;simp only;go_simp
def CS (c d:Cm):Nat->Value->Prop
 | 0,v=>v=cmV c
 | 1,v=>v=evV (ofC c)
 | 2,v=>v=vlV (ofC c)
 | 3,v=>v=cmV d
 | 4,v=>v=evV (ofC d)
 | 5,v=>v=vlV (ofC d)
 | 6,v=>v = .bool (dd c d)
 | 7,v=>v = .bool (dd c d)
 | _,_=>True
theorem lx (c d:Cm)(w:World) :
  Calls Tryz.prog 142 #[cmV c,cmV d] w fun e w'=>e=yn (.bool (dd c d))/\yp w w':=by
 have xG:=zi w (Obj.cells c.vs.toArray 37);have ug:((w.alloc (Obj.cells c.vs.toArray 37)).alloc (Obj.cells d.vs.toArray 37)).heap.size=w.heap.size+1+1:=by rw[zi,xG]
 have r0:=zf (zm w c.vs 37) (C:=w.heap.size+1) ((Below.refl _ _).alloc (by rw[xG];omega) (Obj.cells d.vs.toArray 37)) (by omega);have r1:=zm (w.alloc (Obj.cells c.vs.toArray 37)) d.vs 37;rw[xG] at r1;have vf:Hid (yp w ((w.alloc (Obj.cells c.vs.toArray 37)).alloc (Obj.cells d.vs.toArray 37))):=(mc _ _).alloc (by rw[xG];omega) _;have HX:Hid (_/\_):=⟨r0,r1⟩;have xZ:=U ug;clear r0 r1 xG ug;unfold cmV;go_enter Tryz.func142,Tryz.ntmps142;go_wp2_with fail;unfold Cm.vs at vf HX xZ;generalize hW:((w.alloc (me (List.toArray (yy c.k c.s c.t c.l c.q c.i c.p c.g)) 37)).alloc (me (List.toArray (yy d.k d.s d.t d.l d.q d.i d.p d.g)) 37))=W at vf HX xZ;refine iS (RGrow W (fun f=>{ tmps:=#[cmV c,cmV d,yq w 0,h3 (w.heap.size+1) 0,f 7,f 0,f 1,f 2,f 3,f 4,f 5,f 6],defers:=[] }) (CS c d)) (by kernel_rfl) ?_ ?_ ?_
 ·refine⟨upd (fun _=>M) 7 (.bool false),rfl,?_,fun j hj=>by rw[yJ] at hj;split at hj <;> simp at hj⟩;rw[<- hW];exact⟨rfl,rfl,rfl,Nat.le_refl _,fun _ _=>rfl⟩
 ·rintro x md V ⟨f,rfl,xl,hC⟩ hx xY;have hall7:=eM xY hx (acyc _ (by kernel_rfl)) 7 (by simp);have e7:f 7 = .bool (dd c d):=hC 7 hall7;simp only[e7];have xI:=U xl;clear hC hx xY hall7 e7 xl;go_wp2_with fail;go_ret;exact⟨rfl,(O vf).trans ((O xI).mono (O vf).size)⟩
 ·rintro x md V i o ⟨f,rfl,xl,hC⟩ hx D xA X;have xI:=U xl;have HC:=U hC;have hw0:w.heap.size<W.heap.size:=by rw[O xZ];omega
  have pH:w.heap.size+1<W.heap.size:=by rw[O xZ];omega
  match i,D with
  | 0,D =>
   cases D;obtain⟨x0,x1,x2,x3,x4,x5,x6,x7⟩:=cm_cells (c:=c) (zf (O HX).1 xl hw0);simp only[Nat.zero_add] at x0 x1 x2 x3 x4 x5 x6 x7;clear X hC xl;go_simp;exact⟨upd f 0 (cmV c),by simp[upd,cmV],O xI,zP (O HC) rfl⟩
  | 1,D =>
   cases D;have g0:f 0=cmV c:=hC 0 (yf X 0 rfl);clear X hC xl;rw[if_pos (by rfl)];unfold Oper.wp;unfold cmV at g0;go_simp;exact⟨upd f 1 (evV (ofC c)),by simp[upd,evV,ofC,cmV,g0],O xI,zP (O HC) rfl⟩
  | 2,D =>
   cases D;have g1:f 1=evV (ofC c):=hC 1 (yf X 1 rfl);clear X hC xl;go_simp;refine(valueOf_any (ofC c) V).mono ?_;rintro e w4 ⟨rfl,xF⟩;exact⟨upd f 2 (vlV (ofC c)),by simp[upd,g1],(O xI).trans (xF.mono (O xI).size),zP (O HC) rfl⟩
  | 3,D =>
   cases D;obtain⟨x0,x1,x2,x3,x4,x5,x6,x7⟩:=cm_cells (c:=d) (zf (O HX).2 xl pH);simp only[Nat.zero_add] at x0 x1 x2 x3 x4 x5 x6 x7;clear X hC xl;go_simp;exact⟨upd f 3 (cmV d),by simp[upd,cmV],O xI,zP (O HC) rfl⟩
  | 4,D =>
   cases D;have g0:f 3=cmV d:=hC 3 (yf X 3 rfl);clear X hC xl;rw[if_pos (by rfl)];unfold Oper.wp;unfold cmV at g0;go_simp;exact⟨upd f 4 (evV (ofC d)),by simp[upd,evV,ofC,cmV,g0],O xI,zP (O HC) rfl⟩
  | 5,D =>
   cases D;have g1:f 4=evV (ofC d):=hC 4 (yf X 4 rfl);clear X hC xl;go_simp;refine(valueOf_any (ofC d) V).mono ?_;rintro e w4 ⟨rfl,xF⟩;exact⟨upd f 5 (vlV (ofC d)),by simp[upd,g1],(O xI).trans (xF.mono (O xI).size),zP (O HC) rfl⟩
  | 6,D =>
   cases D;have g2:f 2=vlV (ofC c):=hC 2 (yf X 2 rfl);have g5:f 5=vlV (ofC d):=hC 5 (yf X 5 rfl);have he:=eqVl c d V;have F:=eqGd c d V;clear X hC xl;go_simp;exact⟨upd f 6 (.bool (dd c d)),by simp[upd,g2,g5],O xI,zP (O HC) rfl⟩
  | 7,D =>
   cases D;have g6:f 6 = .bool (dd c d):=hC 6 (yf X 6 rfl);clear X hC xl;go_simp;exact⟨upd f 7 (.bool (dd c d)),by simp[upd,g6],O xI,zP (O HC) rfl⟩
  | n+8,D=>simp at D
abbrev ORow (W:World)(B:Nat)(v:Value)(l:List Od):Prop:=W.ownsRow B 71 6 v l.length (l.flatMap Od.vs)
theorem zZ {W:World}{B:Nat}{v:Value}{l:List Od}(h:ORow W B v l)(hl:l.length<=1073741824):RdR Od.vs 6 W v l:=ownR_rd (gi Od.len hl h)
theorem cellsQ (w:World)(cs:List Value)(t:TypeId)(j:Nat)(u:Value)(h:cs[j]? = some u):(w.alloc (Obj.cells cs.toArray t)).cell? (((yr w 0):Addr).add j)=some u:=by
 rw[Addr.add_mid,cell_of_row _ w.heap.size (0+j) cs.toArray t (0,0) (heap_alloc_new w _)];simpa using h
theorem ia {W:World}{g off:Nat}{l:List Od}(h:∀i c,l[i]? = some c->W.rangeAt g (off+i*6) c.vs)(a n:Nat):∀j u,(((l.drop a).take n).flatMap Od.vs)[j]? = some u->W.cell? (((Y g (off+a*6)):Addr).add j)=some u:=by
 intro j u hu;have xK:=(yH.1 hu).1;rw[dT Od.len] at xK;have hq:j / 6<((l.drop a).take n).length:=by omega
 obtain⟨c,hc⟩:∃c,((l.drop a).take n)[j / 6]? = some c:=⟨_,yI hq⟩;have Z:=flat_get Od.len _ (j / 6) (j % 6) c hc (by omega);rw[show j / 6*6+j % 6=j by omega,hu] at Z
 have hc':l[a+j / 6]? = some c:=by
  rw[List.getElem?_take] at hc;split at hc
  ·rw[List.getElem?_drop] at hc;exact hc
  ·cases hc
 have:=h _ c hc' (j % 6) u Z.symm;rw[Addr.add_mid];rw[show off+(a+j / 6)*6+j % 6=off+a*6+j by omega] at this;exact this
theorem fQ (l:List Od):∀u∈l.flatMap Od.vs,u.oneCell'=true:=by
 intro u hu;obtain⟨o,_,D⟩:=List.mem_flatMap.1 hu;simp[Od.vs] at D;rcases D with rfl|rfl|rfl|rfl|rfl|rfl <;> rfl
structure R7 (LV:Value) (W0:World) (C:Nat->Value->Prop) (L1 L2:List Od) (x:List Bool) (f:Nat->Value) (W:World):Prop where
 bel:Below W0.heap.size W0 W
 c:∀j,x[j]? = some true->C j (f j)
 s5:x[10]? = some false->f 10=LV
 m0:x[0]? = some true->x[4]? = some false->ORow W W0.heap.size (f 0) []
 m4:x[4]? = some true->x[9]? = some false->ORow W W0.heap.size (f 4) L1
 m9:x[9]? = some true->ORow W W0.heap.size (f 9) L2
 m10:x[10]? = some true->f 10=f 9
 o4:x[4]? = some true->x[0]? = some true
 o9:x[9]? = some true->x[4]? = some true
 o10:x[10]? = some true->∀j,j<10->x[j]? = some true
theorem gq {x:List Bool}{i j:Nat}(h:i≠j):(x.set i true)[j]? = x[j]?:=yX h
theorem set_mono {x:List Bool}{i j:Nat}(h:x[j]? = some true):(x.set i true)[j]? = some true:=by
 by_cases pd:i=j
 ·subst pd;exact List.getElem?_set_self (yH.1 h).1
 ·rw[yX pd];exact h
theorem gqs {x:List Bool}{i:Nat}(h:x[i]? = some false):(x.set i true)[i]? = some true:=List.getElem?_set_self (yH.1 h).1
section
variable {LV:Value} {W0 W W':World} {C:Nat->Value->Prop} {L1 L2:List Od} {x:List Bool} {f:Nat->Value}
theorem eI (h:R7 LV W0 C L1 L2 x f W)(i:Nat)(v:Value)(hv:C i v)(h0:i≠0)(h4:i≠4)(h9:i≠9)(vj:i≠10):R7 LV W0 C L1 L2 (x.set i true) (upd f i v) W:=by
 refine⟨h.bel,zP h.c hv,?_,?_,?_,?_,?_,?_,?_,?_⟩ <;> simp only[gq h0,gq h4,gq h9,gq vj,zu f v h0.symm,zu f v h4.symm,zu f v h9.symm,zu f v vj.symm]
 ·exact h.s5
 ·exact h.m0
 ·exact h.m4
 ·exact h.m9
 ·exact h.m10
 ·exact h.o4
 ·exact h.o9
 ·exact fun e j hj=>set_mono (h.o10 e j hj)
theorem no_of {b:Option Bool}(h:b=some false):b≠some true:=by rw[h];simp
theorem r7_0 (h:R7 LV W0 C L1 L2 x f W)(h0:x[0]? = some false)(hv:∀v,C 0 v):R7 LV W0 C L1 L2 (x.set 0 true) (upd f 0 (.slice (some (yr W 0)) 0 0)) (W.alloc (me #[] 71)):=by
 have n4:x[4]? ≠ some true:=fun e=>no_of h0 (h.o4 e);have n9:x[9]? ≠ some true:=fun e=>n4 (h.o9 e);have n10:x[10]? ≠ some true:=fun e=>n9 (h.o10 e 9 (by omega));refine⟨h.bel.alloc h.bel.size _,zP h.c (hv _),?_,?_,?_,?_,?_,?_,?_,?_⟩ <;> try simp only[gq (show 0≠4 by decide),gq (show 0≠9 by decide),gq (show 0≠10 by decide),zu f _ (show 10≠0 by decide),zu f _ (show 9≠0 by decide),zu f _ (show 4≠0 by decide)]
 ·exact h.s5
 ·intro _ _;rw[zp];exact World.ownsRow_made W #[] 0 h.bel.size (by decide) rfl
 ·exact fun e=>absurd e n4
 ·exact fun e=>absurd e n9
 ·exact fun e=>absurd e n10
 ·exact fun e=>absurd e n4
 ·exact h.o9
 ·exact fun e j hj=>set_mono (h.o10 e j hj)
theorem r7_4 (h:R7 LV W0 C L1 L2 x f W)(h0:x[0]? = some true)(h4:x[4]? = some false)(hv:∀v,C 4 v){v':Value}(D:ORow W' W0.heap.size v' L1)(F:W.grownBy W' (f 0).ownBlock):R7 LV W0 C L1 L2 (x.set 4 true) (upd f 4 v') W':=by
 have n9:x[9]? ≠ some true:=fun e=>no_of h4 (h.o9 e);have n10:x[10]? ≠ some true:=fun e=>n9 (h.o10 e 9 (by omega));refine⟨h.bel.grown F h.bel.size (fun k E=>((h.m0 h0 h4).lt k E).1),zP h.c (hv _),?_,?_,?_,?_,?_,?_,?_,?_⟩ <;> try simp only[gq (show 4≠0 by decide),gq (show 4≠9 by decide),gq (show 4≠10 by decide),zu f _ (show 10≠4 by decide),zu f _ (show 9≠4 by decide),zu f _ (show 0≠4 by decide)]
 ·exact h.s5
 ·intro _ e;rw[gqs h4] at e;cases e
 ·intro _ _;rw[zp];exact D
 ·exact fun e=>absurd e n9
 ·exact fun e=>absurd e n10
 ·exact fun _=>h0
 ·exact fun e=>absurd e n9
 ·exact fun e j hj=>set_mono (h.o10 e j hj)
theorem r7_9 (h:R7 LV W0 C L1 L2 x f W)(h4:x[4]? = some true)(h9:x[9]? = some false)(hv:∀v,C 9 v){v':Value}(D:ORow W' W0.heap.size v' L2)(F:W.grownBy W' (f 4).ownBlock):R7 LV W0 C L1 L2 (x.set 9 true) (upd f 9 v') W':=by
 have n10:x[10]? ≠ some true:=fun e=>no_of h9 (h.o10 e 9 (by omega));refine⟨h.bel.grown F h.bel.size (fun k E=>((h.m4 h4 h9).lt k E).1),zP h.c (hv _),?_,?_,?_,?_,?_,?_,?_,?_⟩ <;> try simp only[gq (show 9≠0 by decide),gq (show 9≠4 by decide),gq (show 9≠10 by decide),zu f _ (show 10≠9 by decide),zu f _ (show 4≠9 by decide),zu f _ (show 0≠9 by decide)]
 ·exact h.s5
 ·exact fun _ e=>absurd e (by rw[h4];simp)
 ·intro _ e;rw[gqs h9] at e;cases e
 ·intro _;rw[zp];exact D
 ·exact fun e=>absurd e n10
 ·exact h.o4
 ·exact fun _=>h4
 ·exact fun e=>absurd e n10
theorem r7_10 (h:R7 LV W0 C L1 L2 x f W)(hA:∀j,j<10->x[j]? = some true)(vj:x[10]? = some false)(hv:∀v,C 10 v):R7 LV W0 C L1 L2 (x.set 10 true) (upd f 10 (f 9)) W:=by
 refine⟨h.bel,zP h.c (hv _),?_,?_,?_,?_,?_,?_,?_,?_⟩ <;> try simp only[gq (show 10≠0 by decide),gq (show 10≠4 by decide),gq (show 10≠9 by decide),zu f _ (show 9≠10 by decide),zu f _ (show 4≠10 by decide),zu f _ (show 0≠10 by decide)]
 ·intro e;rw[gqs vj] at e;cases e
 ·exact h.m0
 ·exact h.m4
 ·exact h.m9
 ·exact fun _=>zp _ _ _
 ·exact h.o4
 ·exact h.o9
 ·exact fun _ j hj=>set_mono (hA j hj)
end
def C7 (LV:Value)(g n cp i:Nat):Nat->Value->Prop
 | 1,v=>v=LV
 | 2,v=>v=H i
 | 3,v=>v = .slice (some (Y g 0)) i cp
 | 5,v=>v=LV
 | 6,v=>v=H i
 | 7,v=>v=H ((i:Int)+1)
 | 8,v=>∃ad c,v = .slice (some ad) (n-(i+1)) c/\(i+1<n->ad=(Y g ((i+1)*6)))
 | _,_=>True
def R7A (LV:Value)(W0:World)(C:Nat->Value->Prop)(L1 L2:List Od)(hg:(Nat->Value)->Act)(x:List Bool)(md:Act)(W:World):Prop:=∃f,md=hg f/\R7 LV W0 C L1 L2 x f W
theorem iG {W:World}{B:Nat}{v:Value}{l:List Od}(h:ORow W B v l)(xE:l ≠ []):∃g cap,v = .slice (some (Y g 0)) l.length cap/\l.length<=cap/\B<=g/\g<W.heap.size:=by
 rcases h.2 with⟨rfl,h0⟩|⟨g,cap,xt,rfl,K,F,xW,_⟩
 ·exact absurd (List.length_eq_zero_iff.1 h0) xE
 ·exact⟨g,cap,rfl,xW,K,(yZ.1 F).1⟩
def cmdI (c:Cm):Value:=if c.k=1 then .iface 142 (noV c) else if c.k=2 then .iface 243 (.agg #[H c.i]) else if c.k=3 then .iface 245 (.agg #[H c.i,H c.q]) else if c.k=4 then .iface 265 (.agg #[]) else .nilIface
theorem lY (c:Cm)(w:World) :
  Calls Tryz.prog 120 #[cmV c] w fun e w'=>e=yn (noV c)/\yp w w':=by
 obtain⟨k,s,t,l,q,i,p,g⟩:=c;unfold cmV noV;simp only;have hsf:=sfl;go_enter Tryz.func120,Tryz.ntmps120;go_wp2_with fail;go_returns;exact⟨rfl,by go_grown⟩
theorem iR (c:Cm)(w:World) :
  Calls Tryz.prog 141 #[cmV c] w fun e w'=>e=yn (cmdI c)/\yp w w':=by
 obtain⟨k,s,t,l,q,i,p,g⟩:=c;unfold cmV;simp only
 by_cases Z:k=1
 ·subst Z;have ui:Hid (yp w (w.alloc (me (yy 1 s t l q i p g).toArray 37))):=mc _ _;go_enter Tryz.func141,Tryz.ntmps141;go_wp2_with fail;refine(lY ⟨1,s,t,l,q,i,p,g⟩ _).mono ?_;rintro e w' ⟨rfl,K⟩;have xz:=U (mf (O ui) K);clear K;go_wp2_with fail;go_ret;exact⟨rfl,O xz⟩
 have b1:(k==1)=false:=by simpa using Z
 by_cases Q:k=2
 ·subst Q;go_enter Tryz.func141,Tryz.ntmps141;go_wp2_with fail;go_ret;exact⟨rfl,by go_grown⟩
 have b2:(k==2)=false:=by simpa using Q
 by_cases I:k=3
 ·subst I;go_enter Tryz.func141,Tryz.ntmps141;go_wp2_with fail;go_ret;exact⟨rfl,by go_grown⟩
 have b3:(k==3)=false:=by simpa using I
 by_cases h4:k=4
 ·subst h4;go_enter Tryz.func141,Tryz.ntmps141;go_wp2_with fail;go_ret;exact⟨rfl,by go_grown⟩
 have b4:(k==4)=false:=by simpa using h4
 have HC:Hid (cmdI ⟨k,s,t,l,q,i,p,g⟩ = .nilIface):=by show _ = _;simp[cmdI,Z,Q,I,h4]
 go_enter Tryz.func141,Tryz.ntmps141;go_wp2_with fail;go_ret;exact⟨by rw[O HC];rfl,by go_grown⟩
def plcF (id:Int):List Od->Nat->Int
 | [],_=>-1
 | o::r,k=>if o.id=id then k else plcF id r (k+1)
def plc (l:List Od)(id:Int):Int:=plcF id l 0
theorem plcF_spec (id:Int):∀(l:List Od) (k:Nat),(plcF id l k = -1/\∀o∈l,o.id≠id) \/ ∃i o,plcF id l k=((k+i:Nat):Int)/\l[i]? = some o/\o.id=id/\∀j o',j<i->l[j]? = some o'->o'.id≠id
 | [],k=>.inl ⟨rfl,by simp⟩
 | o::r,k=>by
  by_cases h:o.id=id
  ·exact .inr ⟨0,o,by rw[plcF,if_pos h];rfl,rfl,h,by simp⟩
  ·rcases plcF_spec id r (k+1) with⟨Z,Q⟩|⟨i,o',Z,Q,I,h4⟩
   ·refine .inl ⟨by rw[plcF,if_neg h,Z],fun x hx=>?_⟩;rcases List.mem_cons.1 hx with rfl|hx
    ·exact h
    ·exact Q x hx
   ·refine .inr ⟨i+1,o',by rw[plcF,if_neg h,Z];congr 1;omega,Q,I,fun j x hj hx=>?_⟩;cases j with
    | zero=>simp at hx;subst hx;exact h
    | succ j=>exact h4 j x (by omega) (by simpa using hx)
theorem drop_get {l:List Od}{k:Nat}{c:Od}(h:l[k]? = some c):l.drop k=c::l.drop (k+1):=by
 obtain⟨Z,rfl⟩:=yH.1 h;exact xd Z
theorem place1_any (o:Od)(B:Nat)(id:Int)(w:World)(hB:w.cell? (Y B 0)=some (H id)) :
  Calls Tryz.prog 148 #[.agg (yx o.id o.side o.ticks o.left o.life o.tag).toArray,h3 B 0] w fun e w'=>e=yn (.bool (o.id==id))/\yp w w':=by
 obtain⟨vh,side,ticks,left,life,tag⟩:=o;simp only;have hB':(w.alloc (me (yx vh side ticks left life tag).toArray 71)).cell? (Y B 0)=some (H id):=(yW _ _ (Y B 0) (yL w _ hB)).trans hB;go_enter Tryz.func148,Tryz.ntmps148;go_wp2_with fail;go_ret;exact⟨rfl,by go_grown⟩
theorem indexFunc_any (v:Value)(l:List Od)(B:Nat)(id:Int)(w:World)(hr:RdR Od.vs 6 w v l)(hB:w.cell? (Y B 0)=some (H id)) :
  Calls Tryz.prog 147 #[v,.func (.func 148) #[] #[h3 B 0]] w fun e w'=>e=yn (H (plc l id))/\yp w w':=by
 obtain⟨a,cap,rfl,xC,hc⟩:=hr
 have xp:∀(k:Nat) (c:Od),l[k]? = some c->∃b off,a=some (Y b off)/\b<w.heap.size/\w.rangeAt b (off+k*6) c.vs:=by
  intro k c E;obtain⟨b,off,Z,Q,I⟩:=hc (by intro h;rw[h] at E;simp at E);exact⟨b,off,Z,Q,I k c E⟩
 have HC:=U xp;have HBC:=U hB;have hBl:=yL w _ hB;simp only at hBl;clear xp hc hB;go_enter Tryz.func147,Tryz.ntmps147;go_wp2_with fail;go_loopw [8] (fun iv wr=>∃(k:Nat),k<=l.length/\iv=H k/\Hid (plc l id=plcF id (l.drop k) k)/\yp w wr) (fun iv _=>l.length-(intOf iv).toNat)
 case atStart=>exact⟨0,Nat.zero_le _,rfl,rfl,Below.refl _ _⟩
 case round =>
  obtain⟨k,E,rfl,uO,xl⟩:=hrel;have HB:=U xl;clear xl
  by_cases xK:k<l.length
  ·obtain⟨c,vX⟩:∃c,l[k]? = some c:=⟨_,yI xK⟩
   have HP:Hid (plc l id=if c.id=id then(k:Int) else plcF id (l.drop (k+1)) (k+1)):=by
    have:=O uO;rw[drop_get vX] at this;exact this
   obtain⟨b,off,rfl,K,xo⟩:=O HC k c vX;obtain⟨g0,g1,g2,g3,g4,g5⟩:=zL (zf xo (O HB) K);have ux:(k:Int)<l.length:=by omega
   have qx:=U (((O HB).cell (p:=(Y B 0)) hBl).trans (O HBC));clear vX xo K uO;go_wp2_with fail;refine(place1_any c B id wr (O qx)).mono ?_;rintro e w3 ⟨rfl,xV⟩;have xL:=U (mf (O HB) xV);clear xV
   by_cases vl:c.id=id
   ·have K:(c.id==id)=true:=by simpa using vl
    have HK:Hid (plc l id=k):=by have:=O HP;rw[if_pos vl] at this;exact this
    clear vl;go_wp2_with fail;go_ret;exact⟨zt (O HK).symm,O xL⟩
   ·have K:(c.id==id)=false:=by simpa using vl
    have HK:Hid (plc l id=plcF id (l.drop (k+1)) (k+1)):=by have:=O HP;rw[if_neg vl] at this;exact this
    clear vl;go_wp2_with fail;go_roundw
    case rel=>exact⟨k+1,by omega,by go_num,O HK,O xL⟩
    case measure=>simp[intOf];omega
  ·have HK:Hid (plc l id = -1):=by
    have h:=O uO;rw[xb (by omega)] at h;exact h
   go_wp2_with fail;go_ret;exact⟨zt (O HK).symm,O HB⟩
theorem iW (next:Int)(v:Value)(l:List Od)(id:Int)(w:World)(hr:RdR Od.vs 6 w v l) :
  Calls Tryz.prog 126 #[.agg #[H next,v],H id] w fun e w'=>e=yn (H (plc l id))/\yp w w':=by
 have HR:=U hr;obtain⟨a,cap,rfl,xC,hc⟩:=hr;have hmf:∀(fn:Fn) (first cap:Array Value) (w:World),(Instr.makeFunc fn first cap).run Tryz.prog w = .ok (.func fn first cap) w:=fun _ _ _ _=>rfl;have xG:=zi w (me #[H next,.slice a l.length cap] 31);have r1:=zm (w.alloc (me #[H next,.slice a l.length cap] 31)) [H id] 3;rw[xG] at r1;have HX:=U (r1 0 _ rfl);have vf:Hid (yp w ((w.alloc (me #[H next,.slice a l.length cap] 31)).alloc (me #[H id] 3))):=(mc _ _).alloc (by rw[xG];omega) _;clear hc r1 xG;go_enter Tryz.func126,Tryz.ntmps126;go_wp2_with fail;have HX:Hid (World.cell? ((w.alloc (me #[H next,.slice a l.length cap] 31)).alloc (me #[H id] 3)) (Y (w.heap.size+1) 0)=some (H id)):=O HX;generalize ((w.alloc (me #[H next,.slice a l.length cap] 31)).alloc (me #[H id] 3))=W2 at HX vf |-;refine(indexFunc_any _ l (w.heap.size+1) id W2 (zq (O HR) (O vf) yb) (O HX)).mono ?_;rintro e w3 ⟨rfl,xV⟩;have xL:=U (mf (O vf) xV);clear xV;go_wp2_with fail;go_ret;exact⟨rfl,O xL⟩
end Go.Proofs.YtkofhemdefffpaaGreatDoor
