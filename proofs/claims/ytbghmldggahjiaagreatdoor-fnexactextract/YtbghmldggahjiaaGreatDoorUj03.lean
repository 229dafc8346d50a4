/-.-/
import Derived.Test.YtbghmldggahjiaaGreatDoorUj02
import Derived.Defers
import Derived.Recover
import Derived.Laws.Pointers
import Derived.Stop.Asserts
import Derived.LaidEql
import Derived.RowKitTokens
import Derived.Laws.Externs
set_option linter.unusedVariables false
set_option maxHeartbeats 6400000
set_option maxRecDepth 100000
namespace Go.Proofs.YtbghmldggahjiaaGreatDoor
open Go.RowKit
theorem unfold_any (u:Nat)(w:World)(D:u<18446744073709551616) :
  Calls Tryz.prog 58 #[.int .u64 u] w fun e w'=>e = .returned (H (unz u))/\w'=w:=by
 have h0:(0:Int)<=(u:Int):=by omega
 have E:(u:Int)<=18446744073709551615:=by omega
 have HF:=Q (unfold_eq u D);clear D;go_enter Tryz.func58,Tryz.ntmps58;go_wp2;go_ret;exact⟨zt (Z HF),rfl⟩
theorem scan_end (l:List Int)(k i u:Nat)(hi:i<=9)(h:l.length<=k+i):scan l k (10-i) i u=none:=by
 obtain⟨f,hf⟩:∃f,10-i=f+1:=⟨9-i,by omega⟩;rw[hf,scan,if_pos h]
theorem scan_bad (l:List Int)(k i u:Nat)(hi:i<=9)(h:k+i<l.length)(A:(i=9/\1<l.getD (k+i) 0)\/(0<i/\l.getD (k+i) 0=0)):scan l k (10-i) i u=none:=by
 obtain⟨f,hf⟩:∃f,10-i=f+1:=⟨9-i,by omega⟩;rw[hf,scan,if_neg (by omega),if_pos A]
theorem scan_yes (l:List Int)(k i u:Nat)(hi:i<=9)(h:k+i<l.length)(A:¬ ((i=9/\1<l.getD (k+i) 0)\/(0<i/\l.getD (k+i) 0=0)))(hc:l.getD (k+i) 0<128) :
  scan l k (10-i) i u=some (u+(l.getD (k+i) 0 % 128).toNat*128 ^ i,k+i+1):=by
 obtain⟨f,hf⟩:∃f,10-i=f+1:=⟨9-i,by omega⟩;rw[hf,scan,if_neg (by omega),if_neg A,if_pos hc]
theorem scan_next (l:List Int)(k i u:Nat)(hi:i<=9)(h:k+i<l.length)(A:¬ ((i=9/\1<l.getD (k+i) 0)\/(0<i/\l.getD (k+i) 0=0)))(hc:¬ l.getD (k+i) 0<128) :
  scan l k (10-i) i u=scan l k (10-(i+1)) (i+1) (u+(l.getD (k+i) 0 % 128).toNat*128 ^ i):=by
 obtain⟨f,hf⟩:∃f,10-i=f+1:=⟨9-i,by omega⟩;rw[hf,scan,if_neg (by omega),if_neg A,if_neg hc,show 10-(i+1)=f by omega]
def NumEnd (B:Nat)(v:Value)(w:World)(r:Option (Nat × Nat))(e:Ending)(w':World):Prop:=
 w.grownBy w' (some B)/\(∀u next,r=some (u,next)->e = .returned (H (unz u))/\Rdr B w' v next)/\(r=none->∃p,e = .panicked (eE 3 p))
theorem lj {B:Nat}{v:Value}{w w':World}{r:Option (Nat × Nat)}(M:w.grownBy w' (some B))(hr:r=none)(p:Int):NumEnd B v w r (.panicked (eE 3 p)) w':=
 ⟨M,(fun _ _ h=>by rw[hr] at h;cases h),fun _=>⟨p,rfl⟩⟩
theorem numEnd_done {B:Nat}{v:Value}{w w':World}{r:Option (Nat × Nat)}{u n:Nat}(M:w.grownBy w' (some B))(hr:r=some (u,n))(h:Rdr B w' v n):NumEnd B v w r (.returned (H (unz u))) w':=
 ⟨M,(fun a b h'=>by rw[hr] at h';cases h';exact⟨rfl,h⟩),(fun h'=>by rw[hr] at h';cases h')⟩
theorem number_some (B:Nat)(w:World)(b off cap k:Nat)(l:List Int)(hr:Rdr B w (.slice (some ⟨b,off,none⟩) l.length cap) k)(X:k<=l.length)(hl:l.length<=65536)(xC:l.length<=cap)(dj:b≠B)
  (hc:∀i,i<l.length->w.cell? ⟨b,off+i,none⟩=some (.int .u8 (l.getD i 0))) (A:Bts l) :
  Calls Tryz.prog 40 #[.pointer (some ⟨B,0,none⟩)] w fun e w' =>
   NumEnd B (.slice (some ⟨b,off,none⟩) l.length cap) w (getU l k) e w':=by
 have HR:=Q hr;have HC:=Q hc;have HB:=Q A;clear hr hc A;go_enter Tryz.func40,Tryz.ntmps40;go_wp2_with fail;go_loopw [3,4] (fun uv iv wr=>∃i u:Nat,uv = .int .u64 u/\iv=H i/\i<=9/\u<128 ^ i/\scan l k (10-i) i u=getU l k/\k+i<=l.length/\Rdr B wr (.slice (some ⟨b,off,none⟩) l.length cap) ((k+i:Nat):Int)/\w.grownBy wr (some B)) (fun _ iv _=>10-(intOf iv).toNat)
 case atStart=>exact⟨0,0,rfl,rfl,by omega,by decide,rfl,by omega,Z HR,yR _ _⟩
 case round =>
  obtain⟨i,u,rfl,rfl,hi,hu,hs,hki,xU,vY⟩:=hrel;have HS:=Q hs;have HU:=Q hu;have uU:=Q xU;have qm:=Q vY;clear hs hu xU vY
  by_cases uN:k+i<l.length
  ·have hcx:=Z HC (k+i) uN;have jm:=eQ (Z HB) (k+i);have HE:=Q (fun h=>scan_bad l k i u hi uN h);have HY:=Q (fun D E=>scan_yes l k i u hi uN D E);have HN:=Q (fun D E=>scan_next l k i u hi uN D E);generalize l.getD (k+i) 0=c at *;obtain⟨jn,qV⟩:=jm;have bx:=(Z qm).cell hcx (by simpa using dj);clear hcx;go_wp2_with fail;refine(take_ok B 1 (k+i) b off l.length cap _ (Z uU) (by omega) (by omega) xC (by omega)).mono ?_;rintro e w1 ⟨rfl,q,rfl⟩;have qy:=Q (((Z uU).step ((k+i+1:Nat):Int)).drewN q);have HGW:=Q (zC (Z qm) (zC (eF wr ⟨B,1,none⟩ (H ((k+i+1:Nat):Int))) (dZ _ q _)))
   by_cases ut:(i=9/\1<c)\/(0<i/\c=0)
   ·have kB:=Q (Z HE ut);rcases(show(i=9/\1<c)\/(¬ (i=9/\1<c)/\0<i/\c=0) by omega) with⟨rfl,E⟩|⟨h3,h4,rfl⟩
    ·clear ut;go_wp2_with fail;refine(fw B 3 _ _ _ (Z qy)).mono ?_;rintro e w2 ⟨rfl,rfl⟩;go_wp2_with fail;exact⟨rfl,lj (Z HGW) ((Z HS).symm.trans (Z kB)) _⟩
    ·have h4':(0:Int)<i:=by omega
     have h5:((i:Int)==9)=false\/((i:Int)==9)=true:=by cases ((i:Int)==9) <;> simp
     clear ut;rcases h5 with h5|h5
     all_goals
      go_wp2_with fail;refine(fw B 3 _ _ _ (Z qy)).mono ?_;rintro e w2 ⟨rfl,rfl⟩;go_wp2_with fail;exact⟨rfl,lj (Z HGW) ((Z HS).symm.trans (Z kB)) _⟩
   ·have h9:i=9->c<=1:=fun h=>by omega
    have hor:=or_step c i u hi (Z HU) jn qV h9;have xH:=step_lt c i u hi (Z HU) jn qV h9;have hand:=and127b c jn qV;have h7:7*(i:Int)<=63:=by omega
    have vG:(((i:Int)==9)=false/\(i:Int)<=0)\/(((i:Int)==9)=false/\0<(i:Int)/\(c==0)=false)\/(((i:Int)==9)=true/\0<(i:Int)/\(c==0)=false/\c<=1):=by
     simp only[xd,beq_iff_eq];omega
    by_cases hc:c<128
    ·have vR:=Q (Z HY ut hc);have HLt:=Q xH.1;clear ut xH h9;generalize u+(c % 128).toNat*128 ^ i=u' at *;rcases vG with⟨D,E⟩|⟨D,E,h3⟩|⟨D,E,h3,h4⟩
     all_goals
      go_wp2_with fail;refine(unfold_any u' _ (Z HLt)).mono ?_;rintro e w2 ⟨rfl,rfl⟩;go_wp2_with fail;go_ret;exact numEnd_done (Z HGW) ((Z HS).symm.trans (Z vR)) (Z qy)
    ·have aD:=Q (Z HN ut (by omega));have HLt:=Q xH.2;have hi9:i<=8:=by omega
     clear ut xH h9;generalize u+(c % 128).toNat*128 ^ i=u' at *;rcases vG with⟨D,E⟩|⟨D,E,h3⟩|⟨D,E,h3,h4⟩
     ·go_wp2_with fail;go_roundw
      case rel=>exact⟨i+1,u',rfl,by go_num,by omega,Z HLt,(Z aD).symm.trans (Z HS),by omega,Z qy,Z HGW⟩
      case measure=>simp[intOf];omega
     ·go_wp2_with fail;go_roundw
      case rel=>exact⟨i+1,u',rfl,by go_num,by omega,Z HLt,(Z aD).symm.trans (Z HS),by omega,Z qy,Z HGW⟩
      case measure=>simp[intOf];omega
     ·omega
  ·go_wp2_with fail;refine(iH B 1 ((k+i:Nat):Int) _ _ _ _ (Z uU) (by omega) (by omega) (by omega) (by omega) (by omega)).mono ?_;rintro e w1 ⟨rfl,q,rfl⟩;go_wp2_with fail;have hres:=(Z HS).symm.trans (scan_end _ _ _ _ hi (by omega));exact⟨rfl,lj (zC (Z qm) (dZ _ _ _)) hres _⟩
def dU (c k:Int):Value:=.iface 107 (.agg #[H c,H k])
theorem ta_fault (c k:Int)(w:World):(Instr.typeAssert (.iface 107 (.agg #[H c,H k])) 20 74 true).run Tryz.prog w =
  .ok (.tuple #[.iface 107 (.agg #[H c,H k]),.bool true]) w:=by kernel_rfl
theorem ta_nil (w:World):(Instr.typeAssert .nilIface 20 74 true).run Tryz.prog w = .ok (.tuple #[.nilIface,.bool false]) w:=by kernel_rfl
theorem hU {B C:Nat}{w w':World}{v:Value}{k:Int}(h:Rdr B w v k)(A:Below C w w')(hB:B<C):Rdr B w' v k:=
 ⟨(A.cell (p:=⟨B,0,none⟩) hB).trans h.1,(A.cell (p:=⟨B,1,none⟩) hB).trans h.2,(A.frozen (p:=⟨B,1,none⟩) hB).trans h.3⟩
theorem rdr_grown {B g:Nat}{w w':World}{v:Value}{k:Int}(h:Rdr B w v k)(A:w.grownBy w' (some g))(xy:B≠g):Rdr B w' v k:=by
 have xH:=yK w _ h.1;have oO:=A.block B xH (by simpa using xy);exact⟨(yQ (a:=⟨B,0,none⟩) oO).trans h.1,(yQ (a:=⟨B,1,none⟩) oO).trans h.2,(World.frozen?_of_block (a:=⟨B,1,none⟩) oO).trans h.3⟩
def dR (v:Value):Prop:=∀a n c,v = .slice a n c->n<=c
theorem rdr_new (w:World)(v:Value)(k:Int):Rdr w.heap.size (w.alloc (.cells #[v,H k] 72)) v k:=
 ⟨by simp,by simp,by simp⟩
theorem fL {B:Nat}{w:World}{v:Value}{l:List Int}(h:OwnT B w v l):dR v:=by
 obtain⟨g,cap,xr,t,rfl,_,_,D,_⟩:=h;intro a n c e;simp only[Value.slice.injEq] at e;omega
end Go.Proofs.YtbghmldggahjiaaGreatDoor
namespace Go.Proofs.YtbghmldggahjiaaGreatDoor
open Go.RowKit Go.Extern.Stop Go.Stop Go.Extern
set_option linter.unusedVariables false
def hnd (t:Nat):Value:=.pointer (some ⟨2,t,none⟩)
theorem valueOfP (t:Addr)(w:World):(ReflectliteValue.unpack (.iface 109 (.pointer (some t)))).run Tryz.prog w
  = .ok (.agg #[.pointer (some ⟨2,109,none⟩),.pointer (some ⟨w.heap.size,0,none⟩),.int .u64 150]) (w.alloc (.cells #[.pointer (some t)] 109)):=by kernel_rfl
theorem typeP (a:Addr)(w:World):(ReflectliteValue.methodAny (ReflectliteValue.valueError "reflectlite.Value.Type" 0) (fun t _ _ _=>ReflectliteType.toType t) #[.agg #[.pointer (some ⟨2,109,none⟩),.pointer (some a),.int .u64 150]]).run Tryz.prog w
  = .ok (.iface 209 (.agg #[.pointer (some ⟨2,109,none⟩)])) w:=by kernel_rfl
theorem methodKind (h:Value)(w:World):(Go.method 416 209 (.agg #[h]) "Kind").run Tryz.prog w = .ok (237,h) w:=by kernel_rfl
theorem kindP (w:World):((ReflectliteType.abiMethod fun t=>(fun a:Nat=>Value.int IntKind.u8 (a:Int)) <$> Rtype.kind t) #[.pointer (some ⟨2,109,none⟩)]).run Tryz.prog w = .ok (.int .u8 22) w:=by kernel_rfl
theorem kindF (w:World):((ReflectliteType.abiMethod fun t=>(fun a:Nat=>Value.int IntKind.u8 (a:Int)) <$> Rtype.kind t) #[.pointer (some ⟨2,107,none⟩)]).run Tryz.prog w = .ok (.int .u8 25) w:=by kernel_rfl
theorem rlm (z:Sem Value)(f:TypeId->Addr->Nat->Nat->Sem Value)(v:Value) :
  ReflectliteValue.method z f #[v]=(do match <- ReflectliteValue.parts v with|none=>z|some (t,a,fl)=>f t a fl (fl % 32)):=rfl
theorem partsP (a:Addr)(w:World):(ReflectliteValue.parts (.agg #[.pointer (some ⟨2,109,none⟩),.pointer (some a),.int .u64 150])).run Tryz.prog w = .ok (some (109,a,150)) w:=by kernel_rfl
theorem isNilP (a p:Addr)(W:World)(ha:W.cell? a=some (.pointer (some p))) :
  (ReflectliteValue.method (ReflectliteValue.valueError "reflectlite.Value.IsNil" 0) ReflectliteValue.isNil #[.agg #[.pointer (some ⟨2,109,none⟩),.pointer (some a),.int .u64 150]]).run Tryz.prog W = .ok (.bool false) W:=by
 rw[rlm];simp only[Sem.run_bind,partsP,Result.andThen];simp[ReflectliteValue.isNil,loadVar,isAgg,underlying,Tryz.underlying109,ha,Result.andThen]
theorem methodElem (h:Value)(w:World):(Go.method 416 209 (.agg #[h]) "Elem").run Tryz.prog w = .ok (250,.agg #[h]) w:=by kernel_rfl
theorem methodImplements (h:Value)(w:World):(Go.method 416 209 (.agg #[h]) "Implements").run Tryz.prog w = .ok (251,.agg #[h]) w:=by kernel_rfl
theorem methodAssignableTo (h:Value)(w:World):(Go.method 416 209 (.agg #[h]) "AssignableTo").run Tryz.prog w = .ok (248,.agg #[h]) w:=by kernel_rfl
theorem elemP (w:World):(ReflectliteType.method ReflectliteType.elem #[.agg #[.pointer (some ⟨2,109,none⟩)]]).run Tryz.prog w = .ok (.iface 209 (.agg #[.pointer (some ⟨2,107,none⟩)])) w:=by kernel_rfl
theorem implementsF (w:World):(ReflectliteType.relation "Implements" ReflectliteType.implements_ #[.agg #[.pointer (some ⟨2,107,none⟩)],.iface 209 (.agg #[.pointer (some ⟨2,74,none⟩)])]).run Tryz.prog w = .ok (.bool true) w:=by kernel_rfl
theorem typeOfF (v:Value)(w:World):(ReflectliteType.typeOf #[.iface 107 v]).run Tryz.prog w = .ok (.iface 209 (.agg #[.pointer (some ⟨2,107,none⟩)])) w:=by kernel_rfl
theorem assignableF (w:World):(ReflectliteType.relation "AssignableTo" ReflectliteType.assignableTo #[.agg #[.pointer (some ⟨2,107,none⟩)],.iface 209 (.agg #[.pointer (some ⟨2,107,none⟩)])]).run Tryz.prog w = .ok (.bool true) w:=by kernel_rfl
theorem valueOfF (c k:Int)(w:World):(ReflectliteValue.unpack (.iface 107 (.agg #[H c,H k]))).run Tryz.prog w
  = .ok (.agg #[.pointer (some ⟨2,107,none⟩),.pointer (some ⟨w.heap.size,0,none⟩),.int .u64 153]) (w.alloc (.cells #[H c,H k] 107)):=by kernel_rfl
theorem elemOfP (w:World):(Rtype.elem? 109).run Tryz.prog w = .ok (some 107) w:=by kernel_rfl
theorem mkF (p:Addr)(w:World):(ReflectliteValue.mk 107 p ReflectliteValue.flagAddr).run Tryz.prog w = .ok (.agg #[.pointer (some ⟨2,107,none⟩),.pointer (some p),.int .u64 409]) w:=by kernel_rfl
theorem elemVP (a p:Addr)(W:World)(ha:W.cell? a=some (.pointer (some p))) :
  (ReflectliteValue.method (ReflectliteValue.valueError "reflectlite.Value.Elem" 0) ReflectliteValue.elem #[.agg #[.pointer (some ⟨2,109,none⟩),.pointer (some a),.int .u64 150]]).run Tryz.prog W
   = .ok (.agg #[.pointer (some ⟨2,107,none⟩),.pointer (some p),.int .u64 409]) W:=by
 rw[rlm];simp only[Sem.run_bind,partsP,Result.andThen];simp[ReflectliteValue.elem,loadVar,isAgg,underlying,Tryz.underlying109,ha,Result.andThen,elemOfP,mkF]
theorem partsFa (a:Addr)(w:World):(ReflectliteValue.parts (.agg #[.pointer (some ⟨2,107,none⟩),.pointer (some a),.int .u64 409])).run Tryz.prog w = .ok (some (107,a,409)) w:=by kernel_rfl
theorem partsF (a:Addr)(w:World):(ReflectliteValue.parts (.agg #[.pointer (some ⟨2,107,none⟩),.pointer (some a),.int .u64 153])).run Tryz.prog w = .ok (some (107,a,153)) w:=by kernel_rfl
theorem directF (w:World):(Rtype.directlyAssignable 107 107).run Tryz.prog w = .ok true w:=by kernel_rfl
end Go.Proofs.YtbghmldggahjiaaGreatDoor
namespace Go.Proofs.YtbghmldggahjiaaGreatDoor
open Go.RowKit Go.Extern.Stop Go.Stop Go.Extern
set_option linter.unusedVariables false
theorem load2 {P:Program}(V:Nat)(x y:Value)(W:World)(hv0:W.cell? ⟨V,0,none⟩=some x)(hv1:W.cell? ⟨V,1,none⟩=some y) :
  (loadCellsFrom ⟨V,0,none⟩ 0 2 #[]).run P W = .ok #[x,y] W:=by
 simp[loadCellsFrom,hv0,hv1,Addr.add,Result.andThen]
theorem store2 {P:Program}(yl:Nat)(c k:Int)(x0 x1:Value)(W:World)
  (hf0:W.cell? ⟨yl,0,none⟩=some x0) (hf1:W.cell? ⟨yl,1,none⟩=some x1) (uE:W.frozen? ⟨yl,0,none⟩=false) (uw:W.frozen? ⟨yl,1,none⟩=false) :
  (storeCells ⟨yl,0,none⟩ [H c,H k]).run P W = .ok () ((W.setCell ⟨yl,0,none⟩ (H c)).setCell ⟨yl,1,none⟩ (H k)):=by
 have D:(W.setCell ⟨yl,0,none⟩ (H c)).cell? ⟨yl,1,none⟩=some x1:=by
  rw[yL _ _ _ _ (eu (by omega))];exact hf1
 have E:(W.setCell ⟨yl,0,none⟩ (H c)).frozen? ⟨yl,1,none⟩=false:=by rw[World.frozen?_setCell];exact uw
 simp only[storeCells,Sem.run_bind,Addr.add];rw[run_store P W _ _ _ (by rfl)];simp[hf0,uE,Result.andThen];rw[run_store P _ _ _ _ (by rfl)];simp[D,E]
theorem set_two {α:Type}(f:Value->Value->α)(g:Array Value->α)(v x:Value) :
  ReflectliteValue.set.match_3 (fun _=>α) #[v,x] f g=f v x:=rfl
theorem setF (yl V:Nat)(c k:Int)(x0 x1:Value)(W:World)(hv0:W.cell? ⟨V,0,none⟩=some (H c))(hv1:W.cell? ⟨V,1,none⟩=some (H k))
  (hf0:W.cell? ⟨yl,0,none⟩=some x0) (hf1:W.cell? ⟨yl,1,none⟩=some x1) (uE:W.frozen? ⟨yl,0,none⟩=false) (uw:W.frozen? ⟨yl,1,none⟩=false) :
  (ReflectliteValue.set #[.agg #[.pointer (some ⟨2,107,none⟩),.pointer (some ⟨yl,0,none⟩),.int .u64 409],.agg #[.pointer (some ⟨2,107,none⟩),.pointer (some ⟨V,0,none⟩),.int .u64 153]]).run Tryz.prog W
   = .ok (.tuple #[]) ((W.setCell ⟨yl,0,none⟩ (H c)).setCell ⟨yl,1,none⟩ (H k)):=by
 unfold ReflectliteValue.set;rw[set_two];simp only[Sem.run_bind,partsFa,partsF,Result.andThen];simp[ReflectliteValue.flagAddr,loadVar,loadCells,Result.andThen,directF,storeVar,Value.cells];rw[load2 V _ _ W hv0 hv1];simp;rw[store2 yl c k x0 x1 W hf0 hf1 uE uw]
end Go.Proofs.YtbghmldggahjiaaGreatDoor
namespace Go.Proofs.YtbghmldggahjiaaGreatDoor
open Go.RowKit Go.Extern.Stop Go.Stop Go.Extern
set_option linter.unusedVariables false
def ErrT (w:World):Prop:=w.cell? ⟨0,0,none⟩=some (.iface 209 (.agg #[.pointer (some ⟨2,74,none⟩)]))
theorem zY {B:Nat}{w w':World}(h:ErrT w)(A:Below B w w')(hB:w.heap.size<=B):ErrT w':=
 (A.cell (p:=⟨_,0,none⟩) (yJ (yK w _ h) hB)).trans h
theorem as_hit (yl:Nat)(c k:Int)(x0 x1:Value)(w:World)(M:ErrT w)(hf0:w.cell? ⟨yl,0,none⟩=some x0)(hf1:w.cell? ⟨yl,1,none⟩=some x1)
  (uE:w.frozen? ⟨yl,0,none⟩=false) (uw:w.frozen? ⟨yl,1,none⟩=false) :
  Calls Tryz.prog 57 #[.iface 107 (.agg #[H c,H k]),.iface 109 (.pointer (some ⟨yl,0,none⟩))] w fun ev w'=>ev = .returned (.bool true) /\
   w'=(((((w.alloc (.cells #[.pointer (some ⟨yl,0,none⟩)] 109)).alloc (.cells #[.pointer (some ⟨2,109,none⟩),.pointer (some ⟨w.heap.size,0,none⟩),.int .u64 150] 150)).alloc
    (.cells #[.pointer (some ⟨2,109,none⟩),.pointer (some ⟨w.heap.size,0,none⟩),.int .u64 150] 150)).alloc (.cells #[H c,H k] 107)).setCell ⟨yl,0,none⟩ (H c)).setCell ⟨yl,1,none⟩ (H k):=by
 have e1:=@run_callFunc_extern Tryz.prog 90 _ (fun args=>ReflectliteValue.unpack (args.getD 0 (.tuple #[]))) Tryz.func90 (by kernel_rfl) (by kernel_rfl) (by kernel_rfl) (by kernel_rfl);have e2:=@run_callFunc_extern Tryz.prog 91 _ (ReflectliteValue.methodAny (ReflectliteValue.valueError "reflectlite.Value.Type" 0) (fun t _ _ _=>ReflectliteType.toType t)) Tryz.func91 (by kernel_rfl) (by kernel_rfl) (by kernel_rfl) (by kernel_rfl);have e3:=@run_callFunc_extern Tryz.prog 92 _ (ReflectliteValue.method (ReflectliteValue.valueError "reflectlite.Value.IsNil" 0) ReflectliteValue.isNil) Tryz.func92 (by kernel_rfl) (by kernel_rfl) (by kernel_rfl) (by kernel_rfl);have e4:=@run_callFunc_extern Tryz.prog 237 _ (ReflectliteType.abiMethod fun t=>do pure (.int .u8 (<- Rtype.kind t))) Tryz.func237 (by kernel_rfl) (by kernel_rfl) (by kernel_rfl) (by kernel_rfl);have e5:=@run_callFunc_extern Tryz.prog 250 _ (ReflectliteType.method ReflectliteType.elem) Tryz.func250 (by kernel_rfl) (by kernel_rfl) (by kernel_rfl) (by kernel_rfl);have e6:=@run_callFunc_extern Tryz.prog 251 _ (ReflectliteType.relation "Implements" ReflectliteType.implements_) Tryz.func251 (by kernel_rfl) (by kernel_rfl) (by kernel_rfl) (by kernel_rfl);have e7:=@run_callFunc_extern Tryz.prog 127 _ ReflectliteType.typeOf Tryz.func127 (by kernel_rfl) (by kernel_rfl) (by kernel_rfl) (by kernel_rfl);have e8:=@run_callFunc_extern Tryz.prog 248 _ (ReflectliteType.relation "AssignableTo" ReflectliteType.assignableTo) Tryz.func248 (by kernel_rfl) (by kernel_rfl) (by kernel_rfl) (by kernel_rfl);have e9:=@run_callFunc_extern Tryz.prog 128 _ (ReflectliteValue.method (ReflectliteValue.valueError "reflectlite.Value.Elem" 0) ReflectliteValue.elem) Tryz.func128 (by kernel_rfl) (by kernel_rfl) (by kernel_rfl) (by kernel_rfl);have uL:=@run_callFunc_extern Tryz.prog 129 _ ReflectliteValue.set Tryz.func129 (by kernel_rfl) (by kernel_rfl) (by kernel_rfl) (by kernel_rfl);have tO:=typeOfF;have mA:=methodAssignableTo;have aF:=assignableF;have vF:=valueOfF;have vP:=valueOfP;have tP:=typeP;have mK:=methodKind;have mE:=methodElem;have mI:=methodImplements;have kP:=kindP;have kF:=kindF;have lP:=elemP;have iF:=implementsF;have hFl:yl < w.heap.size:=yK w _ hf0;have hEl:0 < w.heap.size:=yK w _ M;have n8:=isNilP ⟨w.heap.size,0,none⟩ ⟨yl,0,none⟩ ((w.alloc (.cells #[.pointer (some ⟨yl,0,none⟩)] 109)).alloc (.cells #[.pointer (some ⟨2,109,none⟩),.pointer (some ⟨w.heap.size,0,none⟩),.int .u64 150] 150)) (by simp)
 have uZ:((w.alloc (.cells #[.pointer (some ⟨yl,0,none⟩)] 109)).alloc (.cells #[.pointer (some ⟨2,109,none⟩),.pointer (some ⟨w.heap.size,0,none⟩),.int .u64 150] 150)).cell? ⟨0,0,none⟩=some (.iface 209 (.agg #[.pointer (some ⟨2,74,none⟩)])):=by
  rw[yV _ _ ⟨0,0,none⟩ (by simp <;> omega),yV _ _ ⟨0,0,none⟩ hEl];exact M
 have el:=elemVP ⟨w.heap.size,0,none⟩ ⟨yl,0,none⟩ (((w.alloc (.cells #[.pointer (some ⟨yl,0,none⟩)] 109)).alloc (.cells #[.pointer (some ⟨2,109,none⟩),.pointer (some ⟨w.heap.size,0,none⟩),.int .u64 150] 150)).alloc (.cells #[.pointer (some ⟨2,109,none⟩),.pointer (some ⟨w.heap.size,0,none⟩),.int .u64 150] 150)) (by rw[yV _ _ ⟨w.heap.size,0,none⟩ (by simp;omega)];simp)
 have st:=setF yl (w.heap.size+1+1+1) c k x0 x1 ((((w.alloc (.cells #[.pointer (some ⟨yl,0,none⟩)] 109)).alloc (.cells #[.pointer (some ⟨2,109,none⟩),.pointer (some ⟨w.heap.size,0,none⟩),.int .u64 150] 150)).alloc (.cells #[.pointer (some ⟨2,109,none⟩),.pointer (some ⟨w.heap.size,0,none⟩),.int .u64 150] 150)).alloc (.cells #[H c,H k] 107))
  (by rw[World.cell?_alloc_at _ _ _ _ (by simp)];rfl) (by rw[World.cell?_alloc_at _ _ _ _ (by simp)];rfl)
  (by rw[yV _ _ ⟨yl,0,none⟩ (by simp;omega),yV _ _ ⟨yl,0,none⟩ (by simp;omega),yV _ _ ⟨yl,0,none⟩ (by simp;omega),yV _ _ ⟨yl,0,none⟩ hFl];exact hf0)
  (by rw[yV _ _ ⟨yl,1,none⟩ (by simp;omega),yV _ _ ⟨yl,1,none⟩ (by simp;omega),yV _ _ ⟨yl,1,none⟩ (by simp;omega),yV _ _ ⟨yl,1,none⟩ hFl];exact hf1)
  (by rw[World.frozen?_alloc_old _ _ ⟨yl,0,none⟩ (by simp;omega),World.frozen?_alloc_old _ _ ⟨yl,0,none⟩ (by simp;omega),World.frozen?_alloc_old _ _ ⟨yl,0,none⟩ (by simp;omega),World.frozen?_alloc_old _ _ ⟨yl,0,none⟩ (Nat.ne_of_lt hFl)];exact uE)
  (by rw[World.frozen?_alloc_old _ _ ⟨yl,1,none⟩ (by simp;omega),World.frozen?_alloc_old _ _ ⟨yl,1,none⟩ (by simp;omega),World.frozen?_alloc_old _ _ ⟨yl,1,none⟩ (by simp;omega),World.frozen?_alloc_old _ _ ⟨yl,1,none⟩ (Nat.ne_of_lt hFl)];exact uw)
 clear hf0 hf1 uE uw M;go_enter Tryz.func57,Tryz.ntmps57;go_wp2;refine wp_loop_rounds 1 ?_;rw[rounds_succ];go_wp2;go_ret;exact⟨rfl,rfl⟩
end Go.Proofs.YtbghmldggahjiaaGreatDoor
namespace Go.Proofs.YtbghmldggahjiaaGreatDoor
open Go.RowKit
theorem codeOf_any (c k:Int)(w:World)(M:ErrT w) :
  Calls Tryz.prog 37 #[dU c k] w fun e w'=>e = .returned (H c)/\yn w w':=by
 have HG:=Q (zY M ((Below.refl _ w).alloc ya (.cells #[H 0,H 0] 107)) ya);clear M;unfold dU;go_enter Tryz.func37,Tryz.ntmps37;go_wp2_with fail;refine(as_hit w.heap.size c k (H 0) (H 0) _ (Z HG) (by simp) (by simp) (by simp) (by simp)).mono ?_;rintro e w1 ⟨rfl,ju⟩
 have jn:w1.cell? ⟨w.heap.size,0,none⟩=some (H c):=by
  rw[ju,yL _ _ _ _ (eu (by omega))];refine yM _ _ _ (u:=H 0) ?_;rw[yV _ _ ⟨w.heap.size,0,none⟩ (by simp;omega),yV _ _ ⟨w.heap.size,0,none⟩ (by simp;omega),yV _ _ ⟨w.heap.size,0,none⟩ (by simp;omega),yV _ _ ⟨w.heap.size,0,none⟩ (by simp)];simp
 have A:Hid (yn w w1):=by
  rw[ju];exact((((((Below.refl _ w).alloc ya _).alloc (by simp) _).alloc (by simp;omega) _).alloc (by simp;omega) _).alloc (by simp;omega) _ |>.setCell (p:=⟨w.heap.size,0,none⟩) ya _).setCell (p:=⟨w.heap.size,1,none⟩) ya _
 clear ju;go_wp2_with fail;go_ret;exact⟨rfl,Z A⟩
theorem number_empty (B:Nat)(w:World)(a:Option Addr)(cap:Nat)(hr:Rdr B w (.slice a 0 cap) 0) :
  Calls Tryz.prog 40 #[.pointer (some ⟨B,0,none⟩)] w fun e w'=>NumEnd B (.slice a 0 cap) w none e w':=by
 go_enter Tryz.func40,Tryz.ntmps40;go_wp2_with fail;refine wp_loop_rounds 1 ?_;rw[rounds_succ];go_wp2_with fail;refine(iH B 1 0 a 0 cap _ hr (by omega) (by omega) (by omega) (by omega) (by omega)).mono ?_;rintro e w1 ⟨rfl,q,rfl⟩;go_wp2_with fail;exact⟨rfl,lj (dZ _ _ _) rfl _⟩
theorem number_any (B:Nat)(v:Value)(l:List Int)(k:Nat)(w w0:World)(xU:Rd w v l)(xC:∀a n c,v = .slice a n c->n<=c)(jA:w.heap.size<=B)(xk:yn w w0)(hr:Rdr B w0 v k)(X:k<=l.length)(hl:l.length<=65536)(A:Bts l) :
  Calls Tryz.prog 40 #[.pointer (some ⟨B,0,none⟩)] w0 fun e w'=>NumEnd B v w0 (getU l k) e w':=by
 have hrd0:=zN xU xk ya;obtain⟨a,cap,rfl,_,hc⟩:=hrd0;obtain⟨a',qP,e',_,hc'⟩:=xU
 by_cases xy:l = []
 ·subst xy;obtain rfl:k=0:=by simpa using X
  have:getU [] 0=none:=rfl;rw[this];exact number_empty B w0 a cap hr
 ·obtain⟨b,off,rfl,xp⟩:=hc xy
  have xH:b<w.heap.size:=by
   simp only[Value.slice.injEq] at e';obtain⟨rfl,_,rfl⟩:=e';obtain⟨b2,o2,e2,pX⟩:=hc' xy;simp only[Option.some.injEq,Addr.mk.injEq] at e2;obtain⟨rfl,rfl,_⟩:=e2;have hp:0<l.length:=List.length_pos_iff.2 xy;exact yK w _ (pX 0 hp)
  exact number_some B w0 b off cap k l hr X hl (xC _ _ _ rfl) (by omega) xp A
def nanB (x:Nat):Bool:=FloatKind.f64.format.order x x != some Ordering.eq
theorem read_rung (ou:Bool)(r:Nat)(h:r<=Ieee.double.infRung):¬ (Ieee.double.read (Ieee.double.word ou r)).isNaN=true:=by
 have D:Ieee.double.infRung=9218868437227405312:=by decide
 have E:Ieee.double.signWeight=9223372036854775808:=by decide
 have hr:Ieee.double.word ou r % Ieee.double.signWeight=r:=by
  unfold Ieee.Format.word;cases ou <;> simp only[E,if_true,if_false,Bool.false_eq_true] <;> omega
 unfold Ieee.Format.read;simp only[hr];split
 ·simp[Ieee.Datum.isNaN]
 ·split
  ·simp[Ieee.Datum.isNaN]
  ·rw[if_pos (by omega)];simp[Ieee.Datum.isNaN]
theorem datum_self (d:Ieee.Datum)(h:¬ d.isNaN=true):d.order d=some Ordering.eq:=by
 cases d with
 | nan s f=>simp[Ieee.Datum.isNaN] at h
 | infinity s=>cases s <;> rfl
 | number s m i=>simp[Ieee.Datum.order,Std.ReflCmp.compare_self]
theorem ofInt_order (n:Int):FloatKind.f64.format.order (floatOfInt .f64 n) (floatOfInt .f64 n)=some Ordering.eq:=by
 refine datum_self _ ?_;show ¬ (Ieee.double.read (Ieee.double.nearest (n<0) n.natAbs 0)).isNaN=true;unfold Ieee.Format.nearest;split
 ·exact read_rung _ _ (Nat.zero_le _)
 ·exact read_rung _ _ (Nat.min_le_right _ _)
theorem fbits (x:Nat)(w:World):(callFunc 216 #[yj x]).run Tryz.prog w = .ok (.value (.int .u64 x)) w:=by
 rw[run_callFunc_extern (e:=Extern.MathFloatBits.float64bits) Tryz.func216 (by kernel_rfl) (by kernel_rfl) (by kernel_rfl) (by kernel_rfl)];rfl
theorem iY (x:Nat)(w:World) :
  Calls Tryz.prog 220 #[yj x] w fun e w'=>e=ym (.bool (nanB x))/\w'=w:=by
 go_enter Tryz.func220,Tryz.ntmps220;go_wp2;go_ret;exact⟨rfl,rfl⟩
end Go.Proofs.YtbghmldggahjiaaGreatDoor
