/-.-/
import Derived.Test.YtkofhemdefffpaaGreatDoorPq05
import Derived.Test.YtkofhemdefffpaaGreatDoorPq23
set_option linter.unusedVariables false
set_option maxHeartbeats 6400000
set_option maxRecDepth 100000
namespace Go.Proofs.YtkofhemdefffpaaGreatDoor
open Go.RowKit
def Ev.put (e:Ev)(o:Nat)(x:Value):Ev:=match o,x with
 | 1,.int _ z=>{ e with cmd:={ e.cmd with k:=z } }
 | 2,.int _ z=>{ e with cmd:={ e.cmd with s:=z } }
 | 3,.int _ z=>{ e with cmd:={ e.cmd with t:=z } }
 | 4,.int _ z=>{ e with cmd:={ e.cmd with l:=z } }
 | 5,.int _ z=>{ e with cmd:={ e.cmd with q:=z } }
 | 6,.int _ z=>{ e with cmd:={ e.cmd with i:=z } }
 | 7,.float _ p=>{ e with cmd:={ e.cmd with p:=p } }
 | 8,.string s=>{ e with cmd:={ e.cmd with g:=s } }
 | 9,.int _ z=>{ e with id:=z }
 | 10,.int _ z=>{ e with other:=z }
 | 11,.int _ z=>{ e with qty:=z }
 | 12,.int _ z=>{ e with price:=z }
 | 13,.int _ z=>{ e with reason:=z }
 | _,_=>e
def TyO (o:Nat)(x:Value):Prop:=if o=7 then ∃p,x=yk p else if o=8 then ∃s,x=yl s else ∃z,x=H z
def EvO (o:Nat):Prop:=o=7\/o=8\/plcO o=true
theorem evs_put {o:Nat}{x:Value}(e:Ev)(D:EvO o)(hx:TyO o x):e.vs.set o x=(e.put o x).vs:=by
 unfold EvO at D;unfold TyO at hx;rcases(show o=7\/o=8\/o=1\/o=2\/o=3\/o=4\/o=5\/o=6\/o=9\/o=10\/o=11\/o=12\/o=13 by simp[plcO] at D;omega) with rfl|rfl|rfl|rfl|rfl|rfl|rfl|rfl|rfl|rfl|rfl|rfl|rfl
 all_goals
  obtain⟨z,rfl⟩:=hx;rfl
theorem rdF_ty {o k n:Nat}{l:List Int}{x:Value}(h:rdF o l k=some (x,n)):TyO o x:=by
 unfold rdF at h;unfold TyO;split at h
 ·rw[if_pos ‹_›];obtain⟨⟨a,b⟩,Z,Q⟩:=Option.map_eq_some_iff.1 h;cases Q;exact⟨_,rfl⟩
 ·rw[if_neg ‹_›];split at h
  ·rw[if_pos ‹_›];obtain⟨⟨a,b⟩,Z,Q⟩:=Option.map_eq_some_iff.1 h;cases Q;exact⟨_,rfl⟩
  ·rw[if_neg ‹_›];obtain⟨⟨a,b⟩,Z,Q⟩:=Option.map_eq_some_iff.1 h;cases Q;exact⟨_,rfl⟩
def rdEs:List Nat->Ev->List Int->Nat->Option (Ev × Nat)
 | [],e,_,k=>some (e,k)
 | o::os,e,l,k=>match rdF o l k with|none=>none|some (x,n)=>rdEs os (e.put o x) l n
theorem gY {o k:Nat}{os:List Nat}{e:Ev}{l:List Int}(h:rdF o l k=none):rdEs (o::os) e l k=none:=by rw[rdEs,h]
theorem gO {o k n:Nat}{os:List Nat}{e:Ev}{l:List Int}{x:Value}(h:rdF o l k=some (x,n)):rdEs (o::os) e l k=rdEs os (e.put o x) l n:=by rw[rdEs,h]
def ev0 (k:Int):Ev:=⟨k,⟨shC k,0,0,0,0,0,0,⟨#[]⟩⟩,0,0,0,0,0⟩
def evA (l:List Int)(k:Nat):Option (Ev × Nat):=
 if l.length<=k then none else if shF (l.getD k 0) = [] then none else rdEs (shF (l.getD k 0)) (ev0 (l.getD k 0)) l (k+1)
theorem evA_end {l:List Int}{k:Nat}(h:l.length<=k):evA l k=none:=if_pos h
theorem evA_no {l:List Int}{k:Nat}(h:k<l.length)(Z:shF (l.getD k 0) = []):evA l k=none:=by unfold evA;rw[if_neg (by omega),if_pos Z]
theorem evA_yes {l:List Int}{k:Nat}(h:k<l.length)(Z:shF (l.getD k 0) ≠ []):evA l k=rdEs (shF (l.getD k 0)) (ev0 (l.getD k 0)) l (k+1):=by unfold evA;rw[if_neg (by omega),if_neg Z]
theorem shF_evO (k:Int):∀o∈shF k,EvO o:=by
 intro o D;unfold shF at D
 repeat' split at D
 all_goals
  simp only[List.mem_cons,List.not_mem_nil,or_false] at D
  try (rcases D with rfl|rfl|rfl|rfl|rfl|rfl|rfl|rfl|rfl)
  try (rcases D with rfl|rfl|rfl|rfl|rfl|rfl|rfl)
  try (rcases D with rfl|rfl|rfl|rfl)
  try (rcases D with rfl|rfl)
  try subst D
  all_goals first|exact .inl rfl|exact .inr (.inl rfl)|exact .inr (.inr rfl)|exact D.elim
theorem set14 (W:World)(b:Nat)(v0 v1 v2 v3 v4 v5 v6 v7 v8 v9 v10 v11 v12 v13:Value):((((((((((((((W.setCell ⟨b,0,none⟩ v0).setCell ⟨b,1,none⟩ v1).setCell ⟨b,2,none⟩ v2).setCell ⟨b,3,none⟩ v3).setCell ⟨b,4,none⟩ v4).setCell ⟨b,5,none⟩ v5).setCell ⟨b,6,none⟩ v6).setCell ⟨b,7,none⟩ v7).setCell ⟨b,8,none⟩ v8).setCell ⟨b,9,none⟩ v9).setCell ⟨b,10,none⟩ v10).setCell ⟨b,11,none⟩ v11).setCell ⟨b,12,none⟩ v12).setCell ⟨b,13,none⟩ v13)=W.setCells b 0 [v0,v1,v2,v3,v4,v5,v6,v7,v8,v9,v10,v11,v12,v13]:=by
 simp only[World.setCells]
theorem iT {R b:Nat}{W:World}{v:Value}{n:Int}(us:List Value)(h:Rdr R W v n)(K:R≠b):Rdr R (W.setCells b 0 us) v n:=by
 have E:=bx_heap b R K us 0 W;exact⟨(yR (a:=⟨R,0,none⟩) E).trans h.1,(yR (a:=⟨R,1,none⟩) E).trans h.2,(World.frozen?_of_block (a:=⟨R,1,none⟩) E).trans h.3⟩
theorem iV {R b:Nat}{w W:World}(us:List Value)(h:w.grownBy W (some R))(K:w.heap.size<=b):w.grownBy (W.setCells b 0 us) (some R):=by
 have Z:=zj b yb us 0 W (Below.refl b W);exact⟨Z.os.trans h.os,Z.tape.trans h.tape,Z.output.trans h.output,yO h.size Z.size,fun i hi hR=>by rw[bx_heap b i (by omega) us 0 W];exact h.block i hi hR⟩
def EvEnd (R:Nat)(v:Value)(w:World)(r:Option (Ev × Nat))(e:Ending)(w':World):Prop:=
 w.grownBy w' (some R)/\(∀x n,r=some (x,n)->e = .returned (evV x)/\Rdr R w' v n)/\(r=none->∃p,e = .panicked (ey 3 p))
theorem evEnd_fail {R:Nat}{v:Value}{w w':World}{r:Option (Ev × Nat)}(F:w.grownBy w' (some R))(hr:r=none)(p:Int):EvEnd R v w r (.panicked (ey 3 p)) w':=
 ⟨F,(fun _ _ h=>by rw[hr] at h;cases h),fun _=>⟨p,rfl⟩⟩
theorem evEnd_done {R:Nat}{v:Value}{w w':World}{r:Option (Ev × Nat)}{x:Ev}{n:Nat}(F:w.grownBy w' (some R))(hr:r=some (x,n))(h:Rdr R w' v n):EvEnd R v w r (.returned (evV x)) w':=
 ⟨F,(fun a b h'=>by rw[hr] at h';cases h';exact⟨rfl,h⟩),(fun h'=>by rw[hr] at h';cases h')⟩
theorem ffs_get {W:World}{B:Nat}:∀ {os:List Nat} {fs:List Fc},FFs W B os fs->os.length=fs.length/\∀(i:Nat) (c:Fc),fs[i]? = some c->∃o:Nat,os[i]? = some o/\FF W B o c
 | [],[],_=>⟨rfl,fun i c h=>by simp at h⟩
 | o::os,c::cs,h=>by
  have ih:=ffs_get h.2;refine⟨by simp[ih.1],fun i d hd=>?_⟩;cases i with
  | zero=>simp at hd;subst hd;exact⟨o,rfl,h.1⟩
  | succ i=>simpa using ih.2 i d (by simpa using hd)
 | [],c::cs,h=>h.elim
 | o::os,[],h=>h.elim
end Go.Proofs.YtkofhemdefffpaaGreatDoor
