/-.-/
import Derived.Test.YthhkapcbocgcoaaGreatDoorKj28
import Derived.Test.YthhkapcbocgcoaaGreatDoorKj40
set_option linter.unusedVariables false
set_option maxHeartbeats 6400000
set_option maxRecDepth 100000
namespace Go.Proofs.YthhkapcbocgcoaaGreatDoor
open Go.RowKit
def PrW (p:Nat):Prop:=tkOk p=true->1<=tk p/\tk p<=1000000

theorem fh (w:World)(o:Obj)(row:Option Nat):w.grownBy (w.alloc o) row:=
 ⟨rfl,rfl,rfl,by simp,fun k hk _=>((Below.refl _ w).alloc ya o).block k hk⟩
theorem src_lt {B:Nat}{w:World}{v:Value}{l:List Int}{m:Int}(h:Src B w v l m):B<w.heap.size:=yL w _ h.code
theorem fD {B:Nat}{w0 w:World}{v:Value}{l:List Int}{m:Int}(h:zP B w0 v l m w)(o:Obj):zP B w0 v l m (w.alloc o):=by
 have hB:=src_lt h.1;obtain⟨a,s,k1,k2,k3,k4,k5,k6⟩:=h.1.cells;have e:∀i,(w.alloc o).cell? (J B i)=w.cell? (J B i):=fun i=>yW _ _ (J B i) hB;have f:∀i,(w.alloc o).frozen? (J B i)=w.frozen? (J B i):=fun i=>World.frozen?_of_block (a:=(J B i)) ((fh w o none).block B hB (by simp));exact⟨⟨rd_grown h.1.rd (fh w o _) h.1.ne,h.1.ne,h.1.bts,(e 0).trans h.1.code,⟨a,s,k1,k2,k3,k4,(e 1).trans k5,(e 2).trans k6⟩,(f 1).trans h.1.free1,(f 2).trans h.1.free2⟩,zw h.2 (fh w o _)⟩
theorem rd_new {w:World}{v:Value}{l:List Int}(h:Rd w v l)(xr:l ≠ []):v.ownBlock≠some w.heap.size:=by
 obtain⟨a,cap,rfl,_,hc⟩:=h;obtain⟨b,off,rfl,xt⟩:=hc xr;have:=yL w _ (xt 0 (List.length_pos_iff.2 xr));simp only[Value.ownBlock,ne_eq,Option.some.injEq];intro e;simp only at this;omega
theorem source_any (v:Value)(l:List Int)(w:World)(h:Rd w v l)(E:Bts l) :
  Calls Tryz.prog 13 #[v] w fun e w'=>e=ym (yp w 0)/\Src w.heap.size w' v l 0/\yn w w':=by
 have HR:=Z h;have HB:=Z E;have HV:=Z (fun xr=>rd_new h xr);obtain⟨a,cap,rfl,hl,_⟩:=h;clear E;go_enter Tryz.func13,Tryz.ntmps13;go_wp2_with fail;go_ret;refine⟨rfl,⟨rd_grown (U HR) (fh w _ _) (U HV),U HV,U HB,cell_of_row _ _ _ _ _ (0,0) (heap_alloc_new w _),⟨0,(l.length:Int) % 1000,by omega,by omega,by omega,by omega,cell_of_row _ _ _ _ _ (0,0) (heap_alloc_new w _),cell_of_row _ _ _ _ _ (0,0) (heap_alloc_new w _)⟩,?_,?_⟩,(Below.refl _ w).alloc ya _⟩
 all_goals
  unfold World.frozen?;rw[heap_alloc_new];simp
theorem own_below_grown {w w1 w':World}{B:Nat}(D:yn w w1)(hB:w.heap.size<=B)(Y:w1.grownBy w' (some B)):yn w w':=
 D.trans (gr_below Y hB D.size)
end Go.Proofs.YthhkapcbocgcoaaGreatDoor
