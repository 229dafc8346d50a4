/-.-/
import Derived.Test.YtkofhemdefffpaaGreatDoorPq05
set_option linter.unusedVariables false
set_option maxHeartbeats 6400000
set_option maxRecDepth 100000
namespace Go.Proofs.YtkofhemdefffpaaGreatDoor
open Go.RowKit
theorem zh {W:World}{b n j:Nat}(h:W.there b 0 n)(hj:j<n):∃u,W.cell? (Y b j)=some u/\W.frozen? (Y b j)=false:=by
 obtain⟨Z,Q⟩:=h j hj;rw[Nat.zero_add] at Z Q;obtain⟨u,hu⟩:=Option.isSome_iff_exists.1 Z;exact⟨u,hu,Q⟩
theorem fD {x:List Bool}{n j:Nat}(hx:x.length=n)(hj:j<n):x[j]? = some false\/x[j]? = some true:=by
 rw[yI (by omega)];cases x[j] <;> simp
def tkS (x:Nat):Int:=if ((FloatKind.f64.format.order x 0==some Ordering.gt)&&((FloatKind.f64.format.order x 4687829947429945344==some Ordering.lt)||(FloatKind.f64.format.order x 4687829947429945344==some Ordering.eq)))=true then tkN x else 0
theorem tkS_ok {x:Nat}(h:tkOk x=true):tkS x=tk x:=by
 unfold tk tkS;rw[if_pos h];unfold tkOk at h;rw[xf] at h;rw[if_pos h.1]
theorem l01Ticks_any (x:Nat)(w:World) :
  Calls Tryz.prog 57 #[yk x] w fun e w'=>e=yn (.tuple #[H (tkS x),.bool (tkOk x)])/\w'=w:=by
 by_cases h0:FloatKind.f64.format.order x 0=some Ordering.gt
 ·by_cases Z:FloatKind.f64.format.order x 4687829947429945344=some Ordering.lt\/FloatKind.f64.format.order x 4687829947429945344=some Ordering.eq
  ·obtain⟨r,n,kG,bU,hn⟩:=price_four h0 Z;have hn':(n:Int)<9007199254740992:=by omega
   have eR:tkR x=r:=by unfold tkR;rw[show FloatKind.f64.format.mul x 4616189618054758400=some r from kG];rfl
   have eN:tkN x=n:=by unfold tkN;rw[eR,show(FloatKind.f64.decode r).toInt .zero=some (n:Int) from bU];rfl
   have b0:(FloatKind.f64.format.order x 0==some Ordering.gt)=true:=by rw[h0];rfl
   have hm:∀W,(binOp .mul 35 (yk x) (yk 4616189618054758400)).run Tryz.prog W = .ok (yk r) W:=fun W=>by
    have:FloatKind.f64.format.mul x 4616189618054758400=some r:=kG;simp[binOp,Op.floatArith,this]
   have hc:∀W,(convert 35 3 (yk r)).run Tryz.prog W = .ok (H n) W:=fun W=>by
    have Q:(FloatKind.f64.decode r).toInt .zero=some (n:Int):=bU
    have K:IntKind.i64.min<=(n:Int)/\(n:Int)<=IntKind.i64.max:=by
     rw[show IntKind.i64.min = -9223372036854775808 by decide,show IntKind.i64.max=9223372036854775807 by decide];omega
    simp[convert,run_underlying Tryz.underlying35,run_underlying Tryz.underlying3,Conv.floatToInt,Q,K.1];intro h;omega
   have qP:((FloatKind.f64.format.order x 4687829947429945344==some Ordering.lt)||(FloatKind.f64.format.order x 4687829947429945344==some Ordering.eq))=true:=by
    rcases Z with Z|Z <;> rw[Z] <;> rfl
   have uA:tkOk x=(FloatKind.f64.format.order (floatOfInt .f64 n) r==some Ordering.eq):=by unfold tkOk;rw[eN,eR,b0,qP];rfl
   have hS:tkS x=n:=by unfold tkS;rw[b0,qP,eN];rfl
   clear kG bU h0 qP;cases he:(FloatKind.f64.format.order (floatOfInt .f64 n) r==some Ordering.eq)
   all_goals
    have he2:(FloatKind.f64.format.order (floatOfInt .f64 n) r != some Ordering.eq) = !(FloatKind.f64.format.order (floatOfInt .f64 n) r==some Ordering.eq):=rfl;rw[he] at he2;rw[he] at uA
   ·have HT:Hid (tkS x=n/\tkOk x=false):=⟨hS,uA⟩;clear uA eN eR hS;rcases Z with Z|Z
    ·have b1:(FloatKind.f64.format.order x 4687829947429945344==some Ordering.lt)=true:=by rw[Z];rfl
     have b2:(FloatKind.f64.format.order x 4687829947429945344==some Ordering.eq)=false:=by rw[Z];rfl
     clear Z;go_enter Tryz.func57,Tryz.ntmps57;go_wp2;go_ret2;exact⟨by rw[(O HT).1,(O HT).2];rfl,rfl⟩
    ·have b1:(FloatKind.f64.format.order x 4687829947429945344==some Ordering.lt)=false:=by rw[Z];rfl
     have b2:(FloatKind.f64.format.order x 4687829947429945344==some Ordering.eq)=true:=by rw[Z];rfl
     clear Z;go_enter Tryz.func57,Tryz.ntmps57;go_wp2;go_ret2;exact⟨by rw[(O HT).1,(O HT).2];rfl,rfl⟩
   ·have HT:Hid (tkS x=n/\tkOk x=true):=⟨hS,uA⟩;clear uA eN eR hS;rcases Z with Z|Z
    ·have b1:(FloatKind.f64.format.order x 4687829947429945344==some Ordering.lt)=true:=by rw[Z];rfl
     have b2:(FloatKind.f64.format.order x 4687829947429945344==some Ordering.eq)=false:=by rw[Z];rfl
     clear Z;go_enter Tryz.func57,Tryz.ntmps57;go_wp2;go_ret2;exact⟨by rw[(O HT).1,(O HT).2];rfl,rfl⟩
    ·have b1:(FloatKind.f64.format.order x 4687829947429945344==some Ordering.lt)=false:=by rw[Z];rfl
     have b2:(FloatKind.f64.format.order x 4687829947429945344==some Ordering.eq)=true:=by rw[Z];rfl
     clear Z;go_enter Tryz.func57,Tryz.ntmps57;go_wp2;go_ret2;exact⟨by rw[(O HT).1,(O HT).2];rfl,rfl⟩
  ·have b0:(FloatKind.f64.format.order x 0==some Ordering.gt)=true:=by rw[h0];rfl
   have b1:(FloatKind.f64.format.order x 4687829947429945344==some Ordering.lt)=false:=by rw[xe];exact fun h=>Z (.inl h)
   have b2:(FloatKind.f64.format.order x 4687829947429945344==some Ordering.eq)=false:=by rw[xe];exact fun h=>Z (.inr h)
   have uA:tkOk x=false:=by unfold tkOk;rw[b0,b1,b2];rfl
   have HT:Hid (tkS x=0/\tkOk x=false):=⟨by unfold tkS;rw[b0,b1,b2];rfl,uA⟩;clear h0 Z uA;go_enter Tryz.func57,Tryz.ntmps57;go_wp2;go_ret2;exact⟨by rw[(O HT).1,(O HT).2];rfl,rfl⟩
 ·have b0:(FloatKind.f64.format.order x 0==some Ordering.gt)=false:=by rw[xe];exact h0
  have uA:tkOk x=false:=by unfold tkOk;rw[b0];rfl
  have HT:Hid (tkS x=0/\tkOk x=false):=⟨by unfold tkS;rw[b0];rfl,uA⟩;clear h0 uA;go_enter Tryz.func57,Tryz.ntmps57;go_wp2;go_ret2;exact⟨by rw[(O HT).1,(O HT).2];rfl,rfl⟩
theorem l03Better_any (o c:Od)(w:World) :
  Calls Tryz.prog 51 #[.agg (yx o.id o.side o.ticks o.left o.life o.tag).toArray,.agg (yx c.id c.side c.ticks c.left c.life c.tag).toArray] w fun e w'=>e = .returned (.bool (ahdB o c))/\w.grownBy w' none:=by
 by_cases h:o.ticks=c.ticks
 ·have h':(o.ticks==c.ticks)=true:=by simpa using h
  have HA:Hid (ahdB o c=decide (o.id<c.id)):=if_pos h;go_enter Tryz.func51,Tryz.ntmps51;go_wp2_with fail;go_ret;exact⟨zB (O HA).symm,(World.grownBy_alloc _ _ _).trans (World.grownBy_alloc _ _ _)⟩
 ·have HA:Hid (ahdB o c=(decide (c.ticks<o.ticks)==decide (o.side=1))):=if_neg h;go_enter Tryz.func51,Tryz.ntmps51;go_wp2_with fail;go_ret;exact⟨zB (by rw[O HA];rfl),(World.grownBy_alloc _ _ _).trans (World.grownBy_alloc _ _ _)⟩
theorem lG (v:Value)(l:List Od)(sd:Int)(w:World)(hr:RdR Od.vs 6 w v l)(hri:dQ l)(hn:l.length<=1000) :
  Calls Tryz.prog 27 #[v,H sd] w fun e w'=>∃k:Int,e = .returned (H k)/\FrPre l sd l.length k/\w.grownBy w' none:=by
 obtain⟨a,cap,rfl,xC,hc⟩:=hr
 have xp:∀(k:Nat) (c:Od),l[k]? = some c->∃b off,a=some (Y b off)/\b<w.heap.size/\w.rangeAt b (off+k*6) c.vs:=by
  intro k c E;obtain⟨b,off,Z,Q,I⟩:=hc (by intro h;rw[h] at E;simp at E);exact⟨b,off,Z,Q,I k c E⟩
 have HC:=U xp;have HRI:=U hri;clear xp hc hri;go_enter Tryz.func27,Tryz.ntmps27;go_wp2_with fail;go_loopw [5,6] (fun bv iv wr=>∃(k:Nat) (best:Int),bv=H best/\k<=l.length/\iv=H k/\Hid (FrPre l sd k best)/\w.grownBy wr none) (fun _ iv _=>l.length-(intOf iv).toNat)
 case atStart=>exact⟨0,-1,rfl,Nat.zero_le _,rfl,.inl ⟨rfl,fun j o hj=>by omega⟩,yS _ _⟩
 case round =>
  obtain⟨k,best,rfl,E,rfl,je,F⟩:=hrel;have HG:=U F;clear F
  by_cases xK:k<l.length
  ·obtain⟨c,vX⟩:∃c,l[k]? = some c:=⟨_,yI xK⟩;obtain⟨b,off,rfl,K,xo⟩:=O HC k c vX;have oQ:=U vX;obtain⟨g0,g1,g2,g3,g4,g5⟩:=zL (zv xo (O HG) K (by simp));have ux:(k:Int)<l.length:=by omega
   have aN:=U xo;have HHB:=U K;clear vX xo
   by_cases hs:c.side=sd
   ·subst hs;rcases O je with⟨rfl,qZ⟩|⟨i,o,rfl,hi,oA,bh,hah⟩
    ·have HN:=U (frPre_first (O je) (O oQ) rfl);clear qZ;go_wp2_with fail;go_quiet (fail);go_wp2_with fail;go_roundw
     case rel=>exact⟨k+1,k,rfl,by omega,by go_num,O HN,gg (O HG) rfl rfl rfl rfl⟩
     case measure=>simp[intOf];omega
    ·obtain⟨b',qw,kD,cO,kE⟩:=O HC i o oA;simp only[Option.some.injEq,Addr.mk.injEq,and_true] at kD;obtain⟨rfl,rfl⟩:=kD;obtain⟨e0,e1,e2,e3,e4,e5⟩:=zL (zv kE (O HG) K (by simp));have hlti:(i:Int)<l.length:=by have:=(yH.1 oA).1;omega
     have uo:¬ ((i:Int)<0):=by omega
     have hi0':decide ((i:Int)<0)=false:=by simp
     have jr:Hid (∀w',wr.grownBy w' none->w'.rangeAt b (off+k*6) c.vs/\w'.rangeAt b (off+i*6) o.vs):=fun w' h'=>⟨zv (zv (O aN) (O HG) K (by simp)) h' (yK K (O HG).size) (by simp),zv (zv kE (O HG) K (by simp)) h' (yK K (O HG).size) (by simp)⟩;have HHI:Hid (l[i]? = some o):=oA;clear hah oA kE bh;go_wp2_with fail;refine ix (W:=wr) (by kernel_rfl) (by kernel_rfl) (yS _ _) ?_
     iterate 19 (
      refine ej (v:=?_) ?_ ?_ ?_;rotate_left
      ·rfl
      ·intro w' uy;obtain⟨c0,c1,c2,c3,c4,c5⟩:=zL (O jr w' uy).1;obtain⟨d0,d1,d2,d3,d4,d5⟩:=zL (O jr w' uy).2;go_simp
       try rfl
      intro hb hK;go_simp;refine hK _ ?_;clear hK hb)
     refine ej (v:=.bool (ahdB c o)) ?_ ?_ ?_
     ·rfl
     ·intro w' uy;go_simp;refine(l03Better_any c o _).mono ?_;rintro e w3 ⟨rfl,ua⟩;exact⟨rfl,uy.trans ua⟩
     intro hb hK;go_simp;refine hK _ ?_;clear hK hb
     iterate 2 (
      refine ej (v:=?_) ?_ ?_ ?_;rotate_left
      ·rfl
      ·intro w' uy;go_simp
       try rfl
      intro hb hK;go_simp;refine hK _ ?_;clear hK hb)
     refine wpQuiet_nil ?_;intro w2 vn;have uf:=U ((O HG).trans vn);clear vn g0 g1 g2 g3 g4 g5 e0 e1 e2 e3 e4 e5;cases hah:ahdB c o
     ·have HN:=U (frPre_worse (O HRI) (O je) (O HHI) (O oQ) rfl hah);go_wp2_with fail;go_roundw
      case rel=>exact⟨k+1,i,rfl,by omega,by go_num,O HN,O uf⟩
      case measure=>simp[intOf];omega
     ·have HN:=U (frPre_better (O HRI) (O je) (O HHI) (O oQ) rfl hah);go_wp2_with fail;go_roundw
      case rel=>exact⟨k+1,k,rfl,by omega,by go_num,O HN,O uf⟩
      case measure=>simp[intOf];omega
   ·have HN:=U (frPre_skip (O je) (O oQ) hs);have hs':(c.side==sd)=false:=by simpa using hs
    go_wp2_with fail;go_quiet (fail);go_wp2_with fail;go_roundw
    case rel=>exact⟨k+1,best,rfl,by omega,by go_num,O HN,gg (O HG) rfl rfl rfl rfl⟩
    case measure=>simp[intOf];omega
  ·go_wp2_with fail;go_ret;have h:=O je;rw[show k=l.length by omega] at h;exact⟨_,rfl,h,O HG⟩
end Go.Proofs.YtkofhemdefffpaaGreatDoor
