/-.-/
import Derived.Test.YthhkapcbocgcoaaGreatDoorKj07
import Derived.Test.YthhkapcbocgcoaaGreatDoorKj13
import Derived.Defers
import Derived.Recover
import Derived.Laws.Pointers
import Derived.Stop.Asserts
import Derived.LaidEql
import Derived.RowKitTokens
set_option linter.unusedVariables false
set_option maxHeartbeats 6400000
set_option maxRecDepth 100000
namespace Go.Proofs.YthhkapcbocgcoaaGreatDoor
open Go.RowKit
theorem unfold_any (u:Nat)(w:World)(D:u<18446744073709551616) :
  Calls Tryz.prog 197 #[.int .u64 u] w fun e w'=>e = .returned (H (unz u))/\w'=w:=by
 have h0:(0:Int)<=(u:Int):=by omega
 have Y:(u:Int)<=18446744073709551615:=by omega
 have HF:=Z (unfold_eq u D);clear D;go_enter Tryz.func197,Tryz.ntmps197;go_wp2;go_ret;exact⟨zB (U HF),rfl⟩
theorem scan_end (l:List Int)(k i u:Nat)(hi:i<=9)(h:l.length<=k+i):scan l k (10-i) i u=none:=by
 obtain⟨f,hf⟩:∃f,10-i=f+1:=⟨9-i,by omega⟩;rw[hf,scan,if_pos h]
theorem scan_bad (l:List Int)(k i u:Nat)(hi:i<=9)(h:k+i<l.length)(E:(i=9/\1<l.getD (k+i) 0)\/(0<i/\l.getD (k+i) 0=0)):scan l k (10-i) i u=none:=by
 obtain⟨f,hf⟩:∃f,10-i=f+1:=⟨9-i,by omega⟩;rw[hf,scan,if_neg (by omega),if_pos E]
theorem scan_yes (l:List Int)(k i u:Nat)(hi:i<=9)(h:k+i<l.length)(E:¬ ((i=9/\1<l.getD (k+i) 0)\/(0<i/\l.getD (k+i) 0=0)))(hc:l.getD (k+i) 0<128) :
  scan l k (10-i) i u=some (u+(l.getD (k+i) 0 % 128).toNat*128 ^ i,k+i+1):=by
 obtain⟨f,hf⟩:∃f,10-i=f+1:=⟨9-i,by omega⟩;rw[hf,scan,if_neg (by omega),if_neg E,if_pos hc]
theorem scan_next (l:List Int)(k i u:Nat)(hi:i<=9)(h:k+i<l.length)(E:¬ ((i=9/\1<l.getD (k+i) 0)\/(0<i/\l.getD (k+i) 0=0)))(hc:¬ l.getD (k+i) 0<128) :
  scan l k (10-i) i u=scan l k (10-(i+1)) (i+1) (u+(l.getD (k+i) 0 % 128).toNat*128 ^ i):=by
 obtain⟨f,hf⟩:∃f,10-i=f+1:=⟨9-i,by omega⟩;rw[hf,scan,if_neg (by omega),if_neg E,if_neg hc,show 10-(i+1)=f by omega]
def NumEnd (B:Nat)(v:Value)(w:World)(r:Option (Nat × Nat))(e:Ending)(w':World):Prop:=
 w.grownBy w' (some B)/\(∀u next,r=some (u,next)->e = .returned (H (unz u))/\Rdr B w' v next)/\(r=none->∃p,e = .panicked (fo 3 p))
theorem ly {B:Nat}{v:Value}{w w':World}{r:Option (Nat × Nat)}(X:w.grownBy w' (some B))(hr:r=none)(p:Int):NumEnd B v w r (.panicked (fo 3 p)) w':=
 ⟨X,(fun _ _ h=>by rw[hr] at h;cases h),fun _=>⟨p,rfl⟩⟩
theorem numEnd_done {B:Nat}{v:Value}{w w':World}{r:Option (Nat × Nat)}{u n:Nat}(X:w.grownBy w' (some B))(hr:r=some (u,n))(h:Rdr B w' v n):NumEnd B v w r (.returned (H (unz u))) w':=
 ⟨X,(fun a b h'=>by rw[hr] at h';cases h';exact⟨rfl,h⟩),(fun h'=>by rw[hr] at h';cases h')⟩
theorem number_some (B:Nat)(w:World)(b off cap k:Nat)(l:List Int)(hr:Rdr B w (.slice (some ⟨b,off,none⟩) l.length cap) k)(hk:k<=l.length)(hl:l.length<=65536)(ur:l.length<=cap)(dG:b≠B)
  (hc:∀i,i<l.length->w.cell? ⟨b,off+i,none⟩=some (.int .u8 (l.getD i 0))) (E:Bts l) :
  Calls Tryz.prog 175 #[.pointer (some ⟨B,0,none⟩)] w fun e w' =>
   NumEnd B (.slice (some ⟨b,off,none⟩) l.length cap) w (getU l k) e w':=by
 have HR:=Z hr;have HC:=Z hc;have HB:=Z E;clear hr hc E;go_enter Tryz.func175,Tryz.ntmps175;go_wp2_with fail;go_loopw [3,4] (fun uv iv wr=>∃i u:Nat,uv = .int .u64 u/\iv=H i/\i<=9/\u<128 ^ i/\scan l k (10-i) i u=getU l k/\k+i<=l.length/\Rdr B wr (.slice (some ⟨b,off,none⟩) l.length cap) ((k+i:Nat):Int)/\w.grownBy wr (some B)) (fun _ iv _=>10-(intOf iv).toNat)
 case atStart=>exact⟨0,0,rfl,rfl,by omega,by decide,rfl,by omega,U HR,yS _ _⟩
 case round =>
  obtain⟨i,u,rfl,rfl,hi,hu,hs,hki,xS,uR⟩:=hrel;have HS:=Z hs;have HU:=Z hu;have vn:=Z xS;have HGR:=Z uR;clear hs hu xS uR
  by_cases vB:k+i<l.length
  ·have hcx:=U HC (k+i) vB;have jM:=bts_get (U HB) (k+i);have HE:=Z (fun h=>scan_bad l k i u hi vB h);have HY:=Z (fun D Y=>scan_yes l k i u hi vB D Y);have HN:=Z (fun D Y=>scan_next l k i u hi vB D Y);generalize l.getD (k+i) 0=c at *;obtain⟨oC,qU⟩:=jM;have cM:=(U HGR).cell hcx (by simpa using dG);clear hcx;go_wp2_with fail;refine(take_ok B 1 (k+i) b off l.length cap _ (U vn) (by omega) (by omega) ur (by omega)).mono ?_;rintro e w1 ⟨rfl,q,rfl⟩;have HRW:=Z (((U vn).step ((k+i+1:Nat):Int)).drewN q);have jR:=Z (zw (U HGR) (zw (dX wr ⟨B,1,none⟩ (H ((k+i+1:Nat):Int))) (ft _ q _)))
   by_cases hbad:(i=9/\1<c)\/(0<i/\c=0)
   ·have bY:=Z (U HE hbad);rcases(show(i=9/\1<c)\/(¬ (i=9/\1<c)/\0<i/\c=0) by omega) with⟨rfl,Y⟩|⟨h3,h4,rfl⟩
    ·clear hbad;go_wp2_with fail;refine(gC B 3 _ _ _ (U HRW)).mono ?_;rintro e w2 ⟨rfl,rfl⟩;go_wp2_with fail;exact⟨rfl,ly (U jR) ((U HS).symm.trans (U bY)) _⟩
    ·have h4':(0:Int)<i:=by omega
     have h5:((i:Int)==9)=false\/((i:Int)==9)=true:=by cases ((i:Int)==9) <;> simp
     clear hbad;rcases h5 with h5|h5
     all_goals
      go_wp2_with fail;refine(gC B 3 _ _ _ (U HRW)).mono ?_;rintro e w2 ⟨rfl,rfl⟩;go_wp2_with fail;exact⟨rfl,ly (U jR) ((U HS).symm.trans (U bY)) _⟩
   ·have h9:i=9->c<=1:=fun h=>by omega
    have hor:=or_step c i u hi (U HU) oC qU h9;have xM:=step_lt c i u hi (U HU) oC qU h9;have hand:=and127b c oC qU;have h7:7*(i:Int)<=63:=by omega
    have qI:(((i:Int)==9)=false/\(i:Int)<=0)\/(((i:Int)==9)=false/\0<(i:Int)/\(c==0)=false)\/(((i:Int)==9)=true/\0<(i:Int)/\(c==0)=false/\c<=1):=by
     simp only[xe,beq_iff_eq];omega
    by_cases hc:c<128
    ·have HYes:=Z (U HY hbad hc);have HLt:=Z xM.1;clear hbad xM h9;generalize u+(c % 128).toNat*128 ^ i=u' at *;rcases qI with⟨D,Y⟩|⟨D,Y,h3⟩|⟨D,Y,h3,h4⟩
     all_goals
      go_wp2_with fail;refine(unfold_any u' _ (U HLt)).mono ?_;rintro e w2 ⟨rfl,rfl⟩;go_wp2_with fail;go_ret;exact numEnd_done (U jR) ((U HS).symm.trans (U HYes)) (U HRW)
    ·have HNext:=Z (U HN hbad (by omega));have HLt:=Z xM.2;have hi9:i<=8:=by omega
     clear hbad xM h9;generalize u+(c % 128).toNat*128 ^ i=u' at *;rcases qI with⟨D,Y⟩|⟨D,Y,h3⟩|⟨D,Y,h3,h4⟩
     ·go_wp2_with fail;go_roundw
      case rel=>exact⟨i+1,u',rfl,by go_num,by omega,U HLt,(U HNext).symm.trans (U HS),by omega,U HRW,U jR⟩
      case measure=>simp[intOf];omega
     ·go_wp2_with fail;go_roundw
      case rel=>exact⟨i+1,u',rfl,by go_num,by omega,U HLt,(U HNext).symm.trans (U HS),by omega,U HRW,U jR⟩
      case measure=>simp[intOf];omega
     ·omega
  ·go_wp2_with fail;refine(take_end B 1 ((k+i:Nat):Int) _ _ _ _ (U vn) (by omega) (by omega) (by omega) (by omega) (by omega)).mono ?_;rintro e w1 ⟨rfl,q,rfl⟩;go_wp2_with fail;have qj:=(U HS).symm.trans (scan_end _ _ _ _ hi (by omega));exact⟨rfl,ly (zw (U HGR) (ft _ _ _)) qj _⟩
def eK (c k:Int):Value:=.iface 205 (.agg #[H c,H k])
theorem ta_fault (c k:Int)(w:World):(Instr.typeAssert (.iface 205 (.agg #[H c,H k])) 20 169 true).run Tryz.prog w =
  .ok (.tuple #[.iface 205 (.agg #[H c,H k]),.bool true]) w:=by kernel_rfl
theorem ta_nil (w:World):(Instr.typeAssert .nilIface 20 169 true).run Tryz.prog w = .ok (.tuple #[.nilIface,.bool false]) w:=by kernel_rfl
theorem iK {B C:Nat}{w w':World}{v:Value}{k:Int}(h:Rdr B w v k)(E:Below C w w')(hB:B<C):Rdr B w' v k:=
 ⟨(E.cell (p:=⟨B,0,none⟩) hB).trans h.1,(E.cell (p:=⟨B,1,none⟩) hB).trans h.2,(E.frozen (p:=⟨B,1,none⟩) hB).trans h.3⟩
theorem rdr_grown {B g:Nat}{w w':World}{v:Value}{k:Int}(h:Rdr B w v k)(E:w.grownBy w' (some g))(xr:B≠g):Rdr B w' v k:=by
 have xM:=yL w _ h.1;have oB:=E.block B xM (by simpa using xr);exact⟨(yR (a:=⟨B,0,none⟩) oB).trans h.1,(yR (a:=⟨B,1,none⟩) oB).trans h.2,(World.frozen?_of_block (a:=⟨B,1,none⟩) oB).trans h.3⟩
def CapOk (v:Value):Prop:=∀a n c,v = .slice a n c->n<=c
theorem rdr_new (w:World)(v:Value)(k:Int):Rdr w.heap.size (w.alloc (.cells #[v,H k] 167)) v k:=
 ⟨by simp,by simp,by simp⟩
theorem capOk_own {B:Nat}{w:World}{v:Value}{l:List Int}(h:OwnT B w v l):CapOk v:=by
 obtain⟨g,cap,xA,t,rfl,_,_,D,_⟩:=h;intro a n c e;simp only[Value.slice.injEq] at e;omega
end Go.Proofs.YthhkapcbocgcoaaGreatDoor
namespace Go.Proofs.YthhkapcbocgcoaaGreatDoor
open Go.RowKit Go.Extern.Stop Go.Stop Go.Extern
set_option linter.unusedVariables false
def hnd (t:Nat):Value:=.pointer (some ⟨2,t,none⟩)
theorem valueOfP (t:Addr)(w:World):(ReflectliteValue.unpack (.iface 207 (.pointer (some t)))).run Tryz.prog w
  = .ok (.agg #[.pointer (some ⟨2,207,none⟩),.pointer (some ⟨w.heap.size,0,none⟩),.int .u64 150]) (w.alloc (.cells #[.pointer (some t)] 207)):=by kernel_rfl
theorem typeP (a:Addr)(w:World):(ReflectliteValue.methodAny (ReflectliteValue.valueError "reflectlite.Value.Type" 0) (fun t _ _ _=>ReflectliteType.toType t) #[.agg #[.pointer (some ⟨2,207,none⟩),.pointer (some a),.int .u64 150]]).run Tryz.prog w
  = .ok (.iface 245 (.agg #[.pointer (some ⟨2,207,none⟩)])) w:=by kernel_rfl
theorem methodKind (h:Value)(w:World):(Go.method 390 245 (.agg #[h]) "Kind").run Tryz.prog w = .ok (228,h) w:=by kernel_rfl
theorem kindP (w:World):((ReflectliteType.abiMethod fun t=>(fun a:Nat=>Value.int IntKind.u8 (a:Int)) <$> Rtype.kind t) #[.pointer (some ⟨2,207,none⟩)]).run Tryz.prog w = .ok (.int .u8 22) w:=by kernel_rfl
theorem kindF (w:World):((ReflectliteType.abiMethod fun t=>(fun a:Nat=>Value.int IntKind.u8 (a:Int)) <$> Rtype.kind t) #[.pointer (some ⟨2,205,none⟩)]).run Tryz.prog w = .ok (.int .u8 25) w:=by kernel_rfl
theorem rlm (z:Sem Value)(f:TypeId->Addr->Nat->Nat->Sem Value)(v:Value) :
  ReflectliteValue.method z f #[v]=(do match <- ReflectliteValue.parts v with|none=>z|some (t,a,fl)=>f t a fl (fl % 32)):=rfl
theorem partsP (a:Addr)(w:World):(ReflectliteValue.parts (.agg #[.pointer (some ⟨2,207,none⟩),.pointer (some a),.int .u64 150])).run Tryz.prog w = .ok (some (207,a,150)) w:=by kernel_rfl
theorem isNilP (a p:Addr)(W:World)(ha:W.cell? a=some (.pointer (some p))) :
  (ReflectliteValue.method (ReflectliteValue.valueError "reflectlite.Value.IsNil" 0) ReflectliteValue.isNil #[.agg #[.pointer (some ⟨2,207,none⟩),.pointer (some a),.int .u64 150]]).run Tryz.prog W = .ok (.bool false) W:=by
 rw[rlm];simp only[Sem.run_bind,partsP,Result.andThen];simp[ReflectliteValue.isNil,loadVar,isAgg,underlying,Tryz.underlying207,ha,Result.andThen]
theorem methodElem (h:Value)(w:World):(Go.method 390 245 (.agg #[h]) "Elem").run Tryz.prog w = .ok (244,.agg #[h]) w:=by kernel_rfl
theorem methodImplements (h:Value)(w:World):(Go.method 390 245 (.agg #[h]) "Implements").run Tryz.prog w = .ok (245,.agg #[h]) w:=by kernel_rfl
theorem methodAssignableTo (h:Value)(w:World):(Go.method 390 245 (.agg #[h]) "AssignableTo").run Tryz.prog w = .ok (242,.agg #[h]) w:=by kernel_rfl
theorem elemP (w:World):(ReflectliteType.method ReflectliteType.elem #[.agg #[.pointer (some ⟨2,207,none⟩)]]).run Tryz.prog w = .ok (.iface 245 (.agg #[.pointer (some ⟨2,205,none⟩)])) w:=by kernel_rfl
theorem implementsF (w:World):(ReflectliteType.relation "Implements" ReflectliteType.implements_ #[.agg #[.pointer (some ⟨2,205,none⟩)],.iface 245 (.agg #[.pointer (some ⟨2,169,none⟩)])]).run Tryz.prog w = .ok (.bool true) w:=by kernel_rfl
theorem typeOfF (v:Value)(w:World):(ReflectliteType.typeOf #[.iface 205 v]).run Tryz.prog w = .ok (.iface 245 (.agg #[.pointer (some ⟨2,205,none⟩)])) w:=by kernel_rfl
theorem assignableF (w:World):(ReflectliteType.relation "AssignableTo" ReflectliteType.assignableTo #[.agg #[.pointer (some ⟨2,205,none⟩)],.iface 245 (.agg #[.pointer (some ⟨2,205,none⟩)])]).run Tryz.prog w = .ok (.bool true) w:=by kernel_rfl
theorem valueOfF (c k:Int)(w:World):(ReflectliteValue.unpack (.iface 205 (.agg #[H c,H k]))).run Tryz.prog w
  = .ok (.agg #[.pointer (some ⟨2,205,none⟩),.pointer (some ⟨w.heap.size,0,none⟩),.int .u64 153]) (w.alloc (.cells #[H c,H k] 205)):=by kernel_rfl
theorem elemOfP (w:World):(Rtype.elem? 207).run Tryz.prog w = .ok (some 205) w:=by kernel_rfl
theorem mkF (p:Addr)(w:World):(ReflectliteValue.mk 205 p ReflectliteValue.flagAddr).run Tryz.prog w = .ok (.agg #[.pointer (some ⟨2,205,none⟩),.pointer (some p),.int .u64 409]) w:=by kernel_rfl
theorem elemVP (a p:Addr)(W:World)(ha:W.cell? a=some (.pointer (some p))) :
  (ReflectliteValue.method (ReflectliteValue.valueError "reflectlite.Value.Elem" 0) ReflectliteValue.elem #[.agg #[.pointer (some ⟨2,207,none⟩),.pointer (some a),.int .u64 150]]).run Tryz.prog W
   = .ok (.agg #[.pointer (some ⟨2,205,none⟩),.pointer (some p),.int .u64 409]) W:=by
 rw[rlm];simp only[Sem.run_bind,partsP,Result.andThen];simp[ReflectliteValue.elem,loadVar,isAgg,underlying,Tryz.underlying207,ha,Result.andThen,elemOfP,mkF]
theorem partsFa (a:Addr)(w:World):(ReflectliteValue.parts (.agg #[.pointer (some ⟨2,205,none⟩),.pointer (some a),.int .u64 409])).run Tryz.prog w = .ok (some (205,a,409)) w:=by kernel_rfl
theorem partsF (a:Addr)(w:World):(ReflectliteValue.parts (.agg #[.pointer (some ⟨2,205,none⟩),.pointer (some a),.int .u64 153])).run Tryz.prog w = .ok (some (205,a,153)) w:=by kernel_rfl
theorem directF (w:World):(Rtype.directlyAssignable 205 205).run Tryz.prog w = .ok true w:=by kernel_rfl
end Go.Proofs.YthhkapcbocgcoaaGreatDoor
namespace Go.Proofs.YthhkapcbocgcoaaGreatDoor
open Go.RowKit Go.Extern.Stop Go.Stop Go.Extern
set_option linter.unusedVariables false
theorem load2 {P:Program}(V:Nat)(x y:Value)(W:World)(hv0:W.cell? ⟨V,0,none⟩=some x)(hv1:W.cell? ⟨V,1,none⟩=some y) :
  (loadCellsFrom ⟨V,0,none⟩ 0 2 #[]).run P W = .ok #[x,y] W:=by
 simp[loadCellsFrom,hv0,hv1,Addr.add,Result.andThen]
theorem store2 {P:Program}(cs:Nat)(c k:Int)(x0 x1:Value)(W:World)
  (hf0:W.cell? ⟨cs,0,none⟩=some x0) (pA:W.cell? ⟨cs,1,none⟩=some x1) (uI:W.frozen? ⟨cs,0,none⟩=false) (uG:W.frozen? ⟨cs,1,none⟩=false) :
  (storeCells ⟨cs,0,none⟩ [H c,H k]).run P W = .ok () ((W.setCell ⟨cs,0,none⟩ (H c)).setCell ⟨cs,1,none⟩ (H k)):=by
 have D:(W.setCell ⟨cs,0,none⟩ (H c)).cell? ⟨cs,1,none⟩=some x1:=by
  rw[yM _ _ _ _ (ei (by omega))];exact pA
 have Y:(W.setCell ⟨cs,0,none⟩ (H c)).frozen? ⟨cs,1,none⟩=false:=by rw[World.frozen?_setCell];exact uG
 simp only[storeCells,Sem.run_bind,Addr.add];rw[run_store P W _ _ _ (by rfl)];simp[hf0,uI,Result.andThen];rw[run_store P _ _ _ _ (by rfl)];simp[D,Y]
theorem set_two {α:Type}(f:Value->Value->α)(g:Array Value->α)(v x:Value) :
  ReflectliteValue.set.match_3 (fun _=>α) #[v,x] f g=f v x:=rfl
theorem setF (cs V:Nat)(c k:Int)(x0 x1:Value)(W:World)(hv0:W.cell? ⟨V,0,none⟩=some (H c))(hv1:W.cell? ⟨V,1,none⟩=some (H k))
  (hf0:W.cell? ⟨cs,0,none⟩=some x0) (pA:W.cell? ⟨cs,1,none⟩=some x1) (uI:W.frozen? ⟨cs,0,none⟩=false) (uG:W.frozen? ⟨cs,1,none⟩=false) :
  (ReflectliteValue.set #[.agg #[.pointer (some ⟨2,205,none⟩),.pointer (some ⟨cs,0,none⟩),.int .u64 409],.agg #[.pointer (some ⟨2,205,none⟩),.pointer (some ⟨V,0,none⟩),.int .u64 153]]).run Tryz.prog W
   = .ok (.tuple #[]) ((W.setCell ⟨cs,0,none⟩ (H c)).setCell ⟨cs,1,none⟩ (H k)):=by
 unfold ReflectliteValue.set;rw[set_two];simp only[Sem.run_bind,partsFa,partsF,Result.andThen];simp[ReflectliteValue.flagAddr,loadVar,loadCells,Result.andThen,directF,storeVar,Value.cells];rw[load2 V _ _ W hv0 hv1];simp;rw[store2 cs c k x0 x1 W hf0 pA uI uG]
end Go.Proofs.YthhkapcbocgcoaaGreatDoor
namespace Go.Proofs.YthhkapcbocgcoaaGreatDoor
open Go.RowKit Go.Extern.Stop Go.Stop Go.Extern
set_option linter.unusedVariables false
def ErrT (w:World):Prop:=w.cell? ⟨1,0,none⟩=some (.iface 245 (.agg #[.pointer (some ⟨2,169,none⟩)]))
theorem fK {B:Nat}{w w':World}(h:ErrT w)(E:Below B w w')(hB:w.heap.size<=B):ErrT w':=
 (E.cell (p:=⟨_,0,none⟩) (yK (yL w _ h) hB)).trans h
theorem as_hit (cs:Nat)(c k:Int)(x0 x1:Value)(w:World)(X:ErrT w)(hf0:w.cell? ⟨cs,0,none⟩=some x0)(pA:w.cell? ⟨cs,1,none⟩=some x1)
  (uI:w.frozen? ⟨cs,0,none⟩=false) (uG:w.frozen? ⟨cs,1,none⟩=false) :
  Calls Tryz.prog 182 #[.iface 205 (.agg #[H c,H k]),.iface 207 (.pointer (some ⟨cs,0,none⟩))] w fun ev w'=>ev = .returned (.bool true) /\
   w'=(((((w.alloc (.cells #[.pointer (some ⟨cs,0,none⟩)] 207)).alloc (.cells #[.pointer (some ⟨2,207,none⟩),.pointer (some ⟨w.heap.size,0,none⟩),.int .u64 150] 232)).alloc
    (.cells #[.pointer (some ⟨2,207,none⟩),.pointer (some ⟨w.heap.size,0,none⟩),.int .u64 150] 232)).alloc (.cells #[H c,H k] 205)).setCell ⟨cs,0,none⟩ (H c)).setCell ⟨cs,1,none⟩ (H k):=by
 have e1:=@run_callFunc_extern Tryz.prog 199 _ (fun args=>ReflectliteValue.unpack (args.getD 0 (.tuple #[]))) Tryz.func199 (by kernel_rfl) (by kernel_rfl) (by kernel_rfl) (by kernel_rfl);have e2:=@run_callFunc_extern Tryz.prog 200 _ (ReflectliteValue.methodAny (ReflectliteValue.valueError "reflectlite.Value.Type" 0) (fun t _ _ _=>ReflectliteType.toType t)) Tryz.func200 (by kernel_rfl) (by kernel_rfl) (by kernel_rfl) (by kernel_rfl);have e3:=@run_callFunc_extern Tryz.prog 201 _ (ReflectliteValue.method (ReflectliteValue.valueError "reflectlite.Value.IsNil" 0) ReflectliteValue.isNil) Tryz.func201 (by kernel_rfl) (by kernel_rfl) (by kernel_rfl) (by kernel_rfl);have e4:=@run_callFunc_extern Tryz.prog 228 _ (ReflectliteType.abiMethod fun t=>do pure (.int .u8 (<- Rtype.kind t))) Tryz.func228 (by kernel_rfl) (by kernel_rfl) (by kernel_rfl) (by kernel_rfl);have e5:=@run_callFunc_extern Tryz.prog 244 _ (ReflectliteType.method ReflectliteType.elem) Tryz.func244 (by kernel_rfl) (by kernel_rfl) (by kernel_rfl) (by kernel_rfl);have e6:=@run_callFunc_extern Tryz.prog 245 _ (ReflectliteType.relation "Implements" ReflectliteType.implements_) Tryz.func245 (by kernel_rfl) (by kernel_rfl) (by kernel_rfl) (by kernel_rfl);have e7:=@run_callFunc_extern Tryz.prog 207 _ ReflectliteType.typeOf Tryz.func207 (by kernel_rfl) (by kernel_rfl) (by kernel_rfl) (by kernel_rfl);have e8:=@run_callFunc_extern Tryz.prog 242 _ (ReflectliteType.relation "AssignableTo" ReflectliteType.assignableTo) Tryz.func242 (by kernel_rfl) (by kernel_rfl) (by kernel_rfl) (by kernel_rfl);have e9:=@run_callFunc_extern Tryz.prog 208 _ (ReflectliteValue.method (ReflectliteValue.valueError "reflectlite.Value.Elem" 0) ReflectliteValue.elem) Tryz.func208 (by kernel_rfl) (by kernel_rfl) (by kernel_rfl) (by kernel_rfl);have uW:=@run_callFunc_extern Tryz.prog 209 _ ReflectliteValue.set Tryz.func209 (by kernel_rfl) (by kernel_rfl) (by kernel_rfl) (by kernel_rfl);have tO:=typeOfF;have mA:=methodAssignableTo;have aF:=assignableF;have vF:=valueOfF;have vP:=valueOfP;have tP:=typeP;have mK:=methodKind;have mE:=methodElem;have mI:=methodImplements;have kP:=kindP;have kF:=kindF;have lP:=elemP;have iF:=implementsF;have dE:cs < w.heap.size:=yL w _ hf0;have hEl:1 < w.heap.size:=yL w _ X;have n8:=isNilP ⟨w.heap.size,0,none⟩ ⟨cs,0,none⟩ ((w.alloc (.cells #[.pointer (some ⟨cs,0,none⟩)] 207)).alloc (.cells #[.pointer (some ⟨2,207,none⟩),.pointer (some ⟨w.heap.size,0,none⟩),.int .u64 150] 232)) (by simp)
 have uD:((w.alloc (.cells #[.pointer (some ⟨cs,0,none⟩)] 207)).alloc (.cells #[.pointer (some ⟨2,207,none⟩),.pointer (some ⟨w.heap.size,0,none⟩),.int .u64 150] 232)).cell? ⟨1,0,none⟩=some (.iface 245 (.agg #[.pointer (some ⟨2,169,none⟩)])):=by
  rw[yW _ _ ⟨1,0,none⟩ (by simp <;> omega),yW _ _ ⟨1,0,none⟩ hEl];exact X
 have el:=elemVP ⟨w.heap.size,0,none⟩ ⟨cs,0,none⟩ (((w.alloc (.cells #[.pointer (some ⟨cs,0,none⟩)] 207)).alloc (.cells #[.pointer (some ⟨2,207,none⟩),.pointer (some ⟨w.heap.size,0,none⟩),.int .u64 150] 232)).alloc (.cells #[.pointer (some ⟨2,207,none⟩),.pointer (some ⟨w.heap.size,0,none⟩),.int .u64 150] 232)) (by rw[yW _ _ ⟨w.heap.size,0,none⟩ (by simp;omega)];simp)
 have st:=setF cs (w.heap.size+1+1+1) c k x0 x1 ((((w.alloc (.cells #[.pointer (some ⟨cs,0,none⟩)] 207)).alloc (.cells #[.pointer (some ⟨2,207,none⟩),.pointer (some ⟨w.heap.size,0,none⟩),.int .u64 150] 232)).alloc (.cells #[.pointer (some ⟨2,207,none⟩),.pointer (some ⟨w.heap.size,0,none⟩),.int .u64 150] 232)).alloc (.cells #[H c,H k] 205))
  (by rw[World.cell?_alloc_at _ _ _ _ (by simp)];rfl) (by rw[World.cell?_alloc_at _ _ _ _ (by simp)];rfl)
  (by rw[yW _ _ ⟨cs,0,none⟩ (by simp;omega),yW _ _ ⟨cs,0,none⟩ (by simp;omega),yW _ _ ⟨cs,0,none⟩ (by simp;omega),yW _ _ ⟨cs,0,none⟩ dE];exact hf0)
  (by rw[yW _ _ ⟨cs,1,none⟩ (by simp;omega),yW _ _ ⟨cs,1,none⟩ (by simp;omega),yW _ _ ⟨cs,1,none⟩ (by simp;omega),yW _ _ ⟨cs,1,none⟩ dE];exact pA)
  (by rw[World.frozen?_alloc_old _ _ ⟨cs,0,none⟩ (by simp;omega),World.frozen?_alloc_old _ _ ⟨cs,0,none⟩ (by simp;omega),World.frozen?_alloc_old _ _ ⟨cs,0,none⟩ (by simp;omega),World.frozen?_alloc_old _ _ ⟨cs,0,none⟩ (Nat.ne_of_lt dE)];exact uI)
  (by rw[World.frozen?_alloc_old _ _ ⟨cs,1,none⟩ (by simp;omega),World.frozen?_alloc_old _ _ ⟨cs,1,none⟩ (by simp;omega),World.frozen?_alloc_old _ _ ⟨cs,1,none⟩ (by simp;omega),World.frozen?_alloc_old _ _ ⟨cs,1,none⟩ (Nat.ne_of_lt dE)];exact uG)
 clear hf0 pA uI uG X;go_enter Tryz.func182,Tryz.ntmps182;go_wp2;refine wp_loop_rounds 1 ?_;rw[rounds_succ];go_wp2;go_ret;exact⟨rfl,rfl⟩
end Go.Proofs.YthhkapcbocgcoaaGreatDoor
namespace Go.Proofs.YthhkapcbocgcoaaGreatDoor
open Go.RowKit
theorem codeOf_any (c k:Int)(w:World)(X:ErrT w) :
  Calls Tryz.prog 143 #[eK c k] w fun e w'=>e = .returned (H c)/\yn w w':=by
 have HG:=Z (fK X ((Below.refl _ w).alloc ya (.cells #[H 0,H 0] 205)) ya);clear X;unfold eK;go_enter Tryz.func143,Tryz.ntmps143;go_wp2_with fail;refine(as_hit w.heap.size c k (H 0) (H 0) _ (U HG) (by simp) (by simp) (by simp) (by simp)).mono ?_;rintro e w1 ⟨rfl,qF⟩
 have oC:w1.cell? ⟨w.heap.size,0,none⟩=some (H c):=by
  rw[qF,yM _ _ _ _ (ei (by omega))];refine yN _ _ _ (u:=H 0) ?_;rw[yW _ _ ⟨w.heap.size,0,none⟩ (by simp;omega),yW _ _ ⟨w.heap.size,0,none⟩ (by simp;omega),yW _ _ ⟨w.heap.size,0,none⟩ (by simp;omega),yW _ _ ⟨w.heap.size,0,none⟩ (by simp)];simp
 have E:Hid (yn w w1):=by
  rw[qF];exact((((((Below.refl _ w).alloc ya _).alloc (by simp) _).alloc (by simp;omega) _).alloc (by simp;omega) _).alloc (by simp;omega) _ |>.setCell (p:=⟨w.heap.size,0,none⟩) ya _).setCell (p:=⟨w.heap.size,1,none⟩) ya _
 clear qF;go_wp2_with fail;go_ret;exact⟨rfl,U E⟩
theorem number_empty (B:Nat)(w:World)(a:Option Addr)(cap:Nat)(hr:Rdr B w (.slice a 0 cap) 0) :
  Calls Tryz.prog 175 #[.pointer (some ⟨B,0,none⟩)] w fun e w'=>NumEnd B (.slice a 0 cap) w none e w':=by
 go_enter Tryz.func175,Tryz.ntmps175;go_wp2_with fail;refine wp_loop_rounds 1 ?_;rw[rounds_succ];go_wp2_with fail;refine(take_end B 1 0 a 0 cap _ hr (by omega) (by omega) (by omega) (by omega) (by omega)).mono ?_;rintro e w1 ⟨rfl,q,rfl⟩;go_wp2_with fail;exact⟨rfl,ly (ft _ _ _) rfl _⟩
theorem number_any (B:Nat)(v:Value)(l:List Int)(k:Nat)(w w0:World)(xS:Rd w v l)(ur:∀a n c,v = .slice a n c->n<=c)(jl:w.heap.size<=B)(xo:yn w w0)(hr:Rdr B w0 v k)(hk:k<=l.length)(hl:l.length<=65536)(E:Bts l) :
  Calls Tryz.prog 175 #[.pointer (some ⟨B,0,none⟩)] w0 fun e w'=>NumEnd B v w0 (getU l k) e w':=by
 have cW:=rd_below xS xo ya;obtain⟨a,cap,rfl,_,hc⟩:=cW;obtain⟨a',kG,e',_,hc'⟩:=xS
 by_cases xr:l = []
 ·subst xr;obtain rfl:k=0:=by simpa using hk
  have:getU [] 0=none:=rfl;rw[this];exact number_empty B w0 a cap hr
 ·obtain⟨b,off,rfl,xt⟩:=hc xr
  have xM:b<w.heap.size:=by
   simp only[Value.slice.injEq] at e';obtain⟨rfl,_,rfl⟩:=e';obtain⟨b2,o2,e2,pX⟩:=hc' xr;simp only[Option.some.injEq,Addr.mk.injEq] at e2;obtain⟨rfl,rfl,_⟩:=e2;have hp:0<l.length:=List.length_pos_iff.2 xr;exact yL w _ (pX 0 hp)
  exact number_some B w0 b off cap k l hr hk hl (ur _ _ _ rfl) (by omega) xt E
theorem frombits (n:Int)(w:World):(callFunc 191 #[.int .u64 n]).run Tryz.prog w = .ok (.value (yj n.toNat)) w:=by
 rw[run_callFunc_extern (e:=Extern.MathFloatBits.float64frombits) Tryz.func191 (by kernel_rfl) (by kernel_rfl) (by kernel_rfl) (by kernel_rfl)];rfl
def shl8 (u:Nat)(c:Int):Nat:=u*256+c.toNat
def eA (l:List Int)(k i:Nat):Nat:=((l.drop k).take i).foldl shl8 0
theorem bits8_step (l:List Int)(k i:Nat)(h:k+i<l.length):eA l k (i+1)=shl8 (eA l k i) (l.getD (k+i) 0):=by
 unfold eA;rw[List.take_succ_eq_append_getElem (by rw[List.length_drop];omega),List.foldl_append];simp[h]
theorem bits8_lt (l:List Int)(k:Nat)(E:Bts l):∀i,eA l k i<256 ^ i
 | 0=>by simp[eA]
 | i+1=>by
  have ih:=bits8_lt l k E i
  by_cases h:k+i<l.length
  ·rw[bits8_step l k i h,Nat.pow_succ];have:=bts_get E (k+i);unfold shl8;omega
  ·have e:eA l k (i+1)=eA l k i:=by
    unfold eA;rw[xa (by rw[List.length_drop];omega),xa (by rw[List.length_drop];omega)]
   rw[e,Nat.pow_succ];omega
theorem or8 (u:Nat)(c:Int)(hu:u<72057594037927936)(h0:0<=c)(D:c<=255):bits .or .u64 (IntKind.u64.wrap ((u:Int)*256)) c=(shl8 u c:Int):=by
 have e2:(u:Int)*256=((u*256:Nat):Int):=by omega
 obtain⟨d,rfl⟩:=Int.eq_ofNat_of_zero_le h0;rw[e2,IntKind.wrap_u64,Int.emod_eq_of_lt (by omega) (by omega),u64_or_nat _ _ (by omega) (by omega)];rw[nat_join 8 _ _ (by omega) (by omega)];unfold shl8;rw[Int.toNat_natCast]
def fJ (l:List Int)(k:Nat):Option (Nat × Nat):=
 if l.length<k+8 then none else if nanB (eA l k 8)=true/\eA l k 8≠9221120237041090560 then none else some (eA l k 8,k+8)
theorem floatA_end {l:List Int}{k:Nat}(h:l.length<k+8):fJ l k=none:=if_pos h
theorem floatA_bad {l:List Int}{k:Nat}(h:¬ l.length<k+8)(E:nanB (eA l k 8)=true/\eA l k 8≠9221120237041090560):fJ l k=none:=by
 unfold fJ;rw[if_neg h,if_pos E]
theorem floatA_yes {l:List Int}{k:Nat}(h:¬ l.length<k+8)(E:¬ (nanB (eA l k 8)=true/\eA l k 8≠9221120237041090560)):fJ l k=some (eA l k 8,k+8):=by
 unfold fJ;rw[if_neg h,if_neg E]
def FltEnd (B:Nat)(v:Value)(w:World)(r:Option (Nat × Nat))(e:Ending)(w':World):Prop:=
 w.grownBy w' (some B)/\(∀x next,r=some (x,next)->e = .returned (yj x)/\Rdr B w' v next)/\(r=none->∃p,e = .panicked (fo 3 p))
theorem fltEnd_fail {B:Nat}{v:Value}{w w':World}{r:Option (Nat × Nat)}(X:w.grownBy w' (some B))(hr:r=none)(p:Int):FltEnd B v w r (.panicked (fo 3 p)) w':=
 ⟨X,(fun _ _ h=>by rw[hr] at h;cases h),fun _=>⟨p,rfl⟩⟩
theorem fltEnd_done {B:Nat}{v:Value}{w w':World}{r:Option (Nat × Nat)}{u n:Nat}(X:w.grownBy w' (some B))(hr:r=some (u,n))(h:Rdr B w' v n):FltEnd B v w r (.returned (yj u)) w':=
 ⟨X,(fun a b h'=>by rw[hr] at h';cases h';exact⟨rfl,h⟩),(fun h'=>by rw[hr] at h';cases h')⟩
theorem float_some (B:Nat)(w0:World)(b off cap k:Nat)(l:List Int)(hr:Rdr B w0 (.slice (some ⟨b,off,none⟩) l.length cap) k)(h8:k+8<=l.length)(hl:l.length<=65536)(ur:l.length<=cap)(dG:b≠B)
  (hc:∀i,i<l.length->w0.cell? ⟨b,off+i,none⟩=some (.int .u8 (l.getD i 0))) (E:Bts l) :
  Calls Tryz.prog 177 #[.pointer (some ⟨B,0,none⟩)] w0 fun e w'=>FltEnd B (.slice (some ⟨b,off,none⟩) l.length cap) w0 (fJ l k) e w':=by
 have HR:=Z hr;have HC:=Z hc;have HB:=Z E;have pB:=frombits;have bY:=Z (floatA_bad (l:=l) (k:=k) (by omega));have HYes:=Z (floatA_yes (l:=l) (k:=k) (by omega));clear hr hc E;go_enter Tryz.func177,Tryz.ntmps177;go_wp2_with fail;refine(take_ok B 8 k b off l.length cap _ (U HR) (by omega) (by omega) ur (by omega)).mono ?_;rintro e w1 ⟨rfl,q,rfl⟩;have HRw:=Z (((U HR).step ((k+8:Nat):Int)).drewN q);have HGw:=Z (zw (dX w0 ⟨B,1,none⟩ (H ((k+8:Nat):Int))) (ft _ q _));go_wp2_with fail
 go_loop [3,10] (fun uv iv=>∃i:Nat,i<=8/\iv=H i/\uv = .int .u64 (eA l k i)) (fun _ iv=>8-(intOf iv).toNat)
 case atStart=>exact⟨0,by omega,rfl,rfl⟩
 case round =>
  obtain⟨i,hi,rfl,rfl⟩:=hrel
  by_cases xM:i<8
  ·have hcx:=U HC (k+i) (by omega);rw[<- Nat.add_assoc] at hcx;have jM:=bts_get (U HB) (k+i);have hlt8:=bits8_lt l k (U HB) i;have hp:256 ^ i<=72057594037927936:=yO (Nat.pow_le_pow_right (by omega) (show i<=7 by omega)) (by decide);have hor:=or8 (eA l k i) (l.getD (k+i) 0) (by omega) jM.1 jM.2;have HS:=Z (bits8_step l k i (by omega));rw[<- U HS] at hor;have uL:(i:Int)<8:=by omega
   generalize l.getD (k+i) 0=c at *;generalize hu:eA l k i=u at *;generalize hu':eA l k (i+1)=u' at *;have HU':=Z hu';clear hlt8 hp hu hu';obtain⟨oC,qU⟩:=jM;go_wp2_with fail
   go_round
   case rel=>exact⟨i+1,by omega,by go_num,by rw[U HU']⟩
   case measure=>simp[intOf];omega
  ·obtain rfl:i=8:=by omega
   generalize eA l k 8=u at *;cases hn:nanB u with
   | true =>
    by_cases he:u=9221120237041090560
    ·have HY:=Z (U HYes (by intro h;exact h.2 he));have he':((u:Int) != 9221120237041090560)=false:=by rw[he];rfl
     clear he;go_wp2_with (go_at_call 146;refine(ln _ _).mono ?_;rintro e w' ⟨rfl,rfl⟩);go_ret;exact fltEnd_done (U HGw) (U HY) (U HRw)
    ·have HY:=Z (U bY ⟨hn,he⟩);have he':((u:Int) != 9221120237041090560)=true:=by rw[bne_iff_ne];omega
     clear he;go_wp2_with (go_at_call 146;refine(ln _ _).mono ?_;rintro e w' ⟨rfl,rfl⟩);refine(gC B 3 _ _ _ (U HRw)).mono ?_;rintro e w2 ⟨rfl,rfl⟩;go_wp2_with fail;exact⟨rfl,fltEnd_fail (U HGw) (U HY) _⟩
   | false =>
    have HY:=Z (U HYes (by intro h;rw[hn] at h;cases h.1));go_wp2_with (go_at_call 146;refine(ln _ _).mono ?_;rintro e w' ⟨rfl,rfl⟩);go_ret;exact fltEnd_done (U HGw) (U HY) (U HRw)
theorem float_end (B:Nat)(w0:World)(a:Option Addr)(cap k:Nat)(l:List Int)(hr:Rdr B w0 (.slice a l.length cap) k)(hk:k<=l.length)(h8:l.length<k+8)(hl:l.length<=65536) :
  Calls Tryz.prog 177 #[.pointer (some ⟨B,0,none⟩)] w0 fun e w'=>FltEnd B (.slice a l.length cap) w0 (fJ l k) e w':=by
 have HR:=Z hr;have HY:=Z (floatA_end h8);clear hr;go_enter Tryz.func177,Tryz.ntmps177;go_wp2_with fail;refine(take_end B 8 k a l.length cap _ (U HR) (by omega) (by omega) (by omega) (by omega) (by omega)).mono ?_;rintro e w1 ⟨rfl,q,rfl⟩;go_wp2_with fail;exact⟨rfl,fltEnd_fail (ft _ _ _) (U HY) _⟩
theorem float_any (B:Nat)(v:Value)(l:List Int)(k:Nat)(w w0:World)(xS:Rd w v l)(ur:CapOk v)(jl:w.heap.size<=B)(xo:yn w w0)(hr:Rdr B w0 v k)(hk:k<=l.length)(hl:l.length<=65536)(E:Bts l) :
  Calls Tryz.prog 177 #[.pointer (some ⟨B,0,none⟩)] w0 fun e w'=>FltEnd B v w0 (fJ l k) e w':=by
 obtain⟨a,cap,rfl,_,hc⟩:=xS
 by_cases h8:l.length<k+8
 ·exact float_end B w0 a cap k l hr hk h8 hl
 ·obtain⟨b,off,rfl,xt⟩:=hc (by intro h;rw[h] at h8;simp at h8);have pl:b<w.heap.size:=yL w _ (xt 0 (by omega));exact float_some B w0 b off cap k l hr (by omega) hl (ur _ _ _ rfl) (by omega) (fun i hi=>(xo.cell (p:=⟨b,off+i,none⟩) pl).trans (xt i hi)) E
theorem ite_okb (p:Prop)[Decidable p](b:Bool)(W:World):(if p then Result.ok (Value.bool b) W else Result.ok (Value.bool false) W)=Result.ok (Value.bool (decide p&&b)) W:=by
 split <;> simp_all
theorem eqVlE (a b:Ev)(W:World):(binOp .eql 103 (vlV a) (vlV b)).run Tryz.prog W = .ok (.bool (sameE a b)) W:=by
 obtain⟨ak,⟨a1,a2,a3,a4,a5,a6,a7,a8⟩,a9,a10,a11,a12,a13⟩:=a;obtain⟨bk,⟨b1,b2,b3,b4,b5,b6,b7,b8⟩,b9,b10,b11,qH,b13⟩:=b;unfold vlV;simp only;go_simp;unfold sameE;simp only;have h7:((fbit a7:Int)=fbit b7) ↔ fbit a7=fbit b7:=by omega
 simp only[h7,ite_okb,Bool.and_true];rfl
end Go.Proofs.YthhkapcbocgcoaaGreatDoor
