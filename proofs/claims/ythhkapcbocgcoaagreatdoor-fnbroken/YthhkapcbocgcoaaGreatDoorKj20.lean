/-.-/
import Derived.Test.YthhkapcbocgcoaaGreatDoorKj11
import Derived.Test.YthhkapcbocgcoaaGreatDoorKj19
set_option linter.unusedVariables false
set_option maxHeartbeats 6400000
set_option maxRecDepth 100000
namespace Go.Proofs.YthhkapcbocgcoaaGreatDoor
open Go.RowKit
def plainC (c:Cm):Bool:=(c.k==0)&&((c.s==0)&&((c.t==0)&&((c.l==0)&&((c.q==0)&&((c.i==0)&&((fbit c.p==0)&&decide (c.g.toList = [])))))))
def fldK (k:Int):List Bool:=if k=1 then[true,false,false,false,false] else if k=2 then[false,false,false,false,true] else if k=3 then[true,true,true,true,false] else if k=4\/k=5\/k=6\/k=7\/k=9 then[true,false,true,false,false] else if k=8 then[false,false,true,false,false] else[]
def numsE (e:Ev):List Int:=[e.id,e.other,e.qty,e.price,e.reason]
def restK (fs:List Bool)(ns:List Int):Bool:=(List.range 5).all fun i=>fs.getD i false||(ns.getD i 0==0)
def okE (e:Ev):Bool:=if fldK e.kind = [] then false else if restK (fldK e.kind) (numsE e)=false then false else
 if e.kind=1 then(e.cmd.k==1)&&((e.cmd.i==0)&&decide (e.cmd.g.size<=13)) else if e.kind=2 then decide (e.cmd.g.size<=13) else plainC e.cmd
theorem fbit_two (x:Nat):fbit (fbit x)=fbit x:=by
 unfold fbit
 repeat' split
 all_goals first|rfl|(exfalso;simp_all)
theorem fbit_none:fbit 0=0:=by
 have h:nanB 0=false:=by decide +kernel
 unfold fbit;rw[h];rfl
theorem cutB_same (s:ByteArray):(cutB s).toList=s.toList ↔ s.size<=13:=by
 by_cases h:s.size<=12
 ·rw[show cutB s=s from if_neg (by omega)];exact⟨fun _=>by omega,fun _=>rfl⟩
 ·by_cases D:s.size=13
  ·rw[cutB_one s D];exact⟨fun _=>by omega,fun _=>rfl⟩
  ·refine⟨fun e=>?_,fun e=>by omega⟩;rw[Go.ByteArray.toList_eq,Go.ByteArray.toList_eq] at e;have e2:=congrArg List.length e;have h3:=gI s;have h4:(cutB s).data.toList.length=(cutB s).size:=rfl;have h5:s.data.toList.length=s.size:=rfl;omega
theorem okE_eq (e:Ev)(hk:1<=e.kind/\e.kind<=9):sameE (bkE e) e=okE e:=by
 obtain⟨xm,⟨ck,F,ct,O,cq,ci,cp,cg⟩,id,xj,qty,xk,xh⟩:=e;simp only at hk;rcases(show xm=1\/xm=2\/xm=3\/xm=4\/xm=5\/xm=6\/xm=7\/xm=8\/xm=9 by omega) with rfl|rfl|rfl|rfl|rfl|rfl|rfl|rfl|rfl
 all_goals
  rw[Bool.eq_iff_iff];simp[sameE,okE,fldK,restK,numsE,fbit_two,cutB_same,List.range_succ,bkE,shF,ev0,shC,bkF,Ev.put,Ev.num,plainC,fbit_none]
  try grind
structure RW (C:Nat->Value->Prop) (n:Nat) (T:World->World) (base:World) (x:List Bool) (f:Nat->Value) (W:World):Prop where
 c:∀j,x[j]? = some true->C j (f j)
 b:x[n]? = some false->Below base.heap.size base W
 m:x[n]? = some true->∃V,Below base.heap.size base V/\W=T V
def RWA (cs:(Nat->Value)->Act)(C:Nat->Value->Prop)(n:Nat)(T:World->World)(base:World)(x:List Bool)(zb:Act)(W:World):Prop:=∃f,zb=cs f/\RW C n T base x f W
section
variable {C:Nat->Value->Prop} {n:Nat} {T:World->World} {base W W':World} {x:List Bool} {f:Nat->Value}
theorem zV (h:RW C n T base x f W)(i:Nat)(v:Value)(hv:C i v)(hn:i≠n):RW C n T base (x.set i true) (upd f i v) W:=by
 refine⟨zC h.c hv,?_,?_⟩ <;> rw[gq hn]
 ·exact h.b
 ·exact h.m
theorem iw (h:RW C n T base x f W)(hn:x[n]? = some false)(E:yn W W'):RW C n T base x f W':=
 ⟨h.c,fun e=>(h.b e).trans (E.mono (h.b e).size),fun e=>by rw[hn] at e;cases e⟩
theorem rw_last (h:RW C n T base x f W)(hn:x[n]? = some false)(hc:∀j,j=n->x[j]? = some false->C j (f j)):RW C n T base (x.set n true) f (T W):=by
 refine⟨fun j hj=>?_,?_,fun _=>⟨W,h.b hn,rfl⟩⟩
 ·by_cases hji:j=n
  ·exact hc j hji (by rw[hji];exact hn)
  ·rw[gq (fun e=>hji e.symm)] at hj;exact h.c j hj
 ·intro e;rw[gqs hn] at e;cases e
end
theorem rw_lastv {C:Nat->Value->Prop}{n:Nat}{T:World->World}{base W:World}{x:List Bool}{f:Nat->Value}(h:RW C n T base x f W)(hn:x[n]? = some false){v:Value}(hv:C n v):RW C n T base (x.set n true) (upd f n v) (T W):=by
 refine⟨zC h.c hv,?_,fun _=>⟨W,h.b hn,rfl⟩⟩;intro e;rw[gqs hn] at e;cases e
def CVw (vs:List (Option Value))(P:Nat->Prop)(j:Nat)(v:Value):Prop:=(∀u,vs[j]? = some (some u)->v=u)/\P j
end Go.Proofs.YthhkapcbocgcoaaGreatDoor
