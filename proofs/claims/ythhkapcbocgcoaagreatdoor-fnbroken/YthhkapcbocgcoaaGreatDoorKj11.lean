/-.-/
import Derived.Test.YthhkapcbocgcoaaGreatDoorKj06
set_option linter.unusedVariables false
set_option maxHeartbeats 6400000
set_option maxRecDepth 100000
namespace Go.Proofs.YthhkapcbocgcoaaGreatDoor
open Go.RowKit
theorem l03Better_any (o c:Od)(w:World) :
  Calls Tryz.prog 66 #[.agg (yw o.id o.side o.ticks o.left o.life o.tag).toArray,.agg (yw c.id c.side c.ticks c.left c.life c.tag).toArray] w fun e w'=>e = .returned (.bool (ahdB o c))/\w.grownBy w' none:=by
 by_cases h:o.ticks=c.ticks
 ·have h':(o.ticks==c.ticks)=true:=by simpa using h
  have HA:Hid (ahdB o c=decide (o.id<c.id)):=if_pos h;go_enter Tryz.func66,Tryz.ntmps66;go_wp2_with fail;go_ret;exact⟨zp (U HA).symm,(World.grownBy_alloc _ _ _).trans (World.grownBy_alloc _ _ _)⟩
 ·have HA:Hid (ahdB o c=(decide (c.ticks<o.ticks)==decide (o.side=1))):=if_neg h;go_enter Tryz.func66,Tryz.ntmps66;go_wp2_with fail;go_ret;exact⟨zp (by rw[U HA];rfl),(World.grownBy_alloc _ _ _).trans (World.grownBy_alloc _ _ _)⟩
theorem lw (v:Value)(l:List Od)(sd:Int)(w:World)(hr:RdR Od.vs 6 w v l)(hri:eo l)(hn:l.length<=1000) :
  Calls Tryz.prog 34 #[v,H sd] w fun e w'=>∃k:Int,e = .returned (H k)/\FrPre l sd l.length k/\w.grownBy w' none:=by
 obtain⟨a,cap,rfl,xC,hc⟩:=hr
 have xt:∀(k:Nat) (c:Od),l[k]? = some c->∃b off,a=some (J b off)/\b<w.heap.size/\w.rangeAt b (off+k*6) c.vs:=by
  intro k c hk;obtain⟨b,off,D,Y,h3⟩:=hc (by intro h;rw[h] at hk;simp at hk);exact⟨b,off,D,Y,h3 k c hk⟩
 have HC:=Z xt;have HRI:=Z hri;clear xt hc hri;go_enter Tryz.func34,Tryz.ntmps34;go_wp2_with fail;go_loopw [5,6] (fun bv iv wr=>∃(k:Nat) (best:Int),bv=H best/\k<=l.length/\iv=H k/\Hid (FrPre l sd k best)/\w.grownBy wr none) (fun _ iv _=>l.length-(intOf iv).toNat)
 case atStart=>exact⟨0,-1,rfl,Nat.zero_le _,rfl,.inl ⟨rfl,fun j o hj=>by omega⟩,yS _ _⟩
 case round =>
  obtain⟨k,best,rfl,hk,rfl,oD,X⟩:=hrel;have HG:=Z X;clear X
  by_cases xM:k<l.length
  ·obtain⟨c,vf⟩:∃c,l[k]? = some c:=⟨_,yI xM⟩;obtain⟨b,off,rfl,E,xn⟩:=U HC k c vf;have pv:=Z vf;obtain⟨g0,g1,g2,g3,g4,g5⟩:=zF (zr xn (U HG) E (by simp));have uL:(k:Int)<l.length:=by omega
   have jZ:=Z xn;have HHB:=Z E;clear vf xn
   by_cases hs:c.side=sd
   ·subst hs;rcases U oD with⟨rfl,vN⟩|⟨i,o,rfl,hi,jx,bV,hah⟩
    ·have HN:=Z (frPre_first (U oD) (U pv) rfl);clear vN;go_wp2_with fail;go_quiet (fail);go_wp2_with fail;go_roundw
     case rel=>exact⟨k+1,k,rfl,by omega,by go_num,U HN,gx (U HG) rfl rfl rfl rfl⟩
     case measure=>simp[intOf];omega
    ·obtain⟨b',off',kK,hb',kL⟩:=U HC i o jx;simp only[Option.some.injEq,Addr.mk.injEq,and_true] at kK;obtain⟨rfl,rfl⟩:=kK;obtain⟨e0,e1,e2,e3,e4,e5⟩:=zF (zr kL (U HG) E (by simp));have hlti:(i:Int)<l.length:=by have:=(yH.1 jx).1;omega
     have vk:¬ ((i:Int)<0):=by omega
     have hi0':decide ((i:Int)<0)=false:=by simp
     have js:Hid (∀w',wr.grownBy w' none->w'.rangeAt b (off+k*6) c.vs/\w'.rangeAt b (off+i*6) o.vs):=fun w' h'=>⟨zr (zr (U jZ) (U HG) E (by simp)) h' (yK E (U HG).size) (by simp),zr (zr kL (U HG) E (by simp)) h' (yK E (U HG).size) (by simp)⟩;have HHI:Hid (l[i]? = some o):=jx;clear hah jx kL bV;go_wp2_with fail;refine ix (W:=wr) (by kernel_rfl) (by kernel_rfl) (yS _ _) ?_
     iterate 19 (
      refine eG (v:=?_) ?_ ?_ ?_;rotate_left
      ·rfl
      ·intro w' uq;obtain⟨c0,c1,c2,c3,c4,c5⟩:=zF (U js w' uq).1;obtain⟨d0,d1,d2,d3,d4,d5⟩:=zF (U js w' uq).2;go_simp
       try rfl
      intro mR hK;go_simp;refine hK _ ?_;clear hK mR)
     refine eG (v:=.bool (ahdB c o)) ?_ ?_ ?_
     ·rfl
     ·intro w' uq;go_simp;refine(l03Better_any c o _).mono ?_;rintro e w3 ⟨rfl,uM⟩;exact⟨rfl,uq.trans uM⟩
     intro mR hK;go_simp;refine hK _ ?_;clear hK mR
     iterate 2 (
      refine eG (v:=?_) ?_ ?_ ?_;rotate_left
      ·rfl
      ·intro w' uq;go_simp
       try rfl
      intro mR hK;go_simp;refine hK _ ?_;clear hK mR)
     refine wpQuiet_nil ?_;intro w2 uD;have uj:=Z ((U HG).trans uD);clear uD g0 g1 g2 g3 g4 g5 e0 e1 e2 e3 e4 e5;cases hah:ahdB c o
     ·have HN:=Z (frPre_worse (U HRI) (U oD) (U HHI) (U pv) rfl hah);go_wp2_with fail;go_roundw
      case rel=>exact⟨k+1,i,rfl,by omega,by go_num,U HN,U uj⟩
      case measure=>simp[intOf];omega
     ·have HN:=Z (frPre_better (U HRI) (U oD) (U HHI) (U pv) rfl hah);go_wp2_with fail;go_roundw
      case rel=>exact⟨k+1,k,rfl,by omega,by go_num,U HN,U uj⟩
      case measure=>simp[intOf];omega
   ·have HN:=Z (frPre_skip (U oD) (U pv) hs);have hs':(c.side==sd)=false:=by simpa using hs
    go_wp2_with fail;go_quiet (fail);go_wp2_with fail;go_roundw
    case rel=>exact⟨k+1,best,rfl,by omega,by go_num,U HN,gx (U HG) rfl rfl rfl rfl⟩
    case measure=>simp[intOf];omega
  ·go_wp2_with fail;go_ret;have h:=U oD;rw[show k=l.length by omega] at h;exact⟨_,rfl,h,U HG⟩
theorem infoIn:(Tryz.prog.info? 3).map (fun i=>(i.zero,i.size,i.bytes))=some (some (H 0),1,8):=by kernel_rfl
def dysF:List Od->Nat->List Nat
 | [],_=>[]
 | o::r,k=>if o.life=1 then k::dysF r (k+1) else dysF r (k+1)
def dys (l:List Od):List Nat:=dysF l 0
def nval (k:Nat):Value:=H k
abbrev IRow (W:World)(B:Nat)(v:Value)(l:List Nat):Prop:=W.ownsRow B 3 1 v l.length (l.map nval)
theorem drop_getD {l:List Od}{k:Nat}{c:Od}(h:l[k]? = some c):l.drop k=c::l.drop (k+1):=by
 obtain⟨D,rfl⟩:=yH.1 h;exact xd D
theorem l04Days_any (v:Value)(l:List Od)(w:World)(hr:RdR Od.vs 6 w v l)(hn:l.length<=1000) :
  Calls Tryz.prog 39 #[v] w fun e w'=>∃v',e = .returned v'/\IRow w' w.heap.size v' (dys l)/\yn w w':=by
 obtain⟨a,cap,rfl,xC,hc⟩:=hr;obtain⟨i0,vk,uI,uG,uZ⟩:=info_parts infoIn
 have xt:∀(k:Nat) (c:Od),l[k]? = some c->∃b off,a=some (J b off)/\b<w.heap.size/\w.rangeAt b (off+k*6) c.vs:=by
  intro k c hk;obtain⟨b,off,D,Y,h3⟩:=hc (by intro h;rw[h] at hk;simp at hk);exact⟨b,off,D,Y,h3 k c hk⟩
 have HC:=Z xt;clear xt hc;have oi:=Z (World.ownsRow_made (base:=w.heap.size) (e:=3) (size:=1) w #[] 0 ya (by decide) rfl);have ud:Hid (yn w (w.alloc (mq #[] 3))):=mn _ _;go_enter Tryz.func39,Tryz.ntmps39;go_wp2_with fail;go_loopw [3,4] (fun ov iv wr=>∃(k:Nat) (out:List Nat),k<=l.length/\iv=H k/\Hid (dys l=out++dysF (l.drop k) k)/\out.length<=k/\IRow wr w.heap.size ov out/\yn w wr) (fun _ iv _=>l.length-(intOf iv).toNat)
 case atStart=>exact⟨0,[],Nat.zero_le _,rfl,rfl,Nat.le_refl _,U oi,U ud⟩
 case round =>
  obtain⟨k,out,hk,rfl,uA,pn,xY,xo⟩:=hrel;have HB:=Z xo;have HO:=Z xY;have km:=xo.size;clear xo xY oi ud
  by_cases xM:k<l.length
  ·obtain⟨c,vf⟩:∃c,l[k]? = some c:=⟨_,yI xM⟩
   have HP:Hid (dys l=out++if c.life=1 then k::dysF (l.drop (k+1)) (k+1) else dysF (l.drop (k+1)) (k+1)):=by
    have:=U uA;rw[drop_getD vf] at this;exact this
   obtain⟨b,off,rfl,E,xn⟩:=U HC k c vf;obtain⟨g0,g1,g2,g3,g4,g5⟩:=zF (zc xn (U HB) E);have uL:(k:Int)<l.length:=by omega
   clear vf xn E uA
   by_cases uk:c.life=1
   ·have HP1:Hid (dys l=(out ++ [k])++dysF (l.drop (k+1)) (k+1)):=by
     have:=U HP;rw[if_pos uk] at this;show _ = _;rw[this];simp
    rw[uk] at g4;clear HP uk;go_wp2_with (at_builtin;go_must (refine wpList_append_own _ rfl _ _ 87 rfl w.heap.size 3 i0 _ 1 8 Tryz.underlying87 vk uI uG uZ rfl (by decide) _ out.length (out.map nval) rfl ((U HO).alloc _) (J wr.heap.size 0) 1 1 [nval k] rfl rfl (cellsQ wr _ _) (by simp[Value.oneCell',nval]) (by unfold maxLen;omega) (by omega) (by simp;omega) ?_);intro v4 w4 qg jv _;have kD:=Z qg;have xF:=Z (((U HB).alloc km _).grown jv (by rw[zf];omega) (fun k hk=>((U HO).lt k hk).1));clear qg jv)
    go_roundw
    case rel=>exact⟨k+1,out ++ [k],by omega,by go_num,U HP1,by simp;omega,by show World.ownsRow _ _ _ _ _ _ _;simpa using U kD,U xF⟩
    case measure=>simp[intOf];omega
   ·have HP1:Hid (dys l=out++dysF (l.drop (k+1)) (k+1)):=by
     have:=U HP;rw[if_neg uk] at this;exact this
    clear HP;go_wp2_with fail;go_roundw
    case rel=>exact⟨k+1,out,by omega,by go_num,U HP1,by omega,U HO,U HB⟩
    case measure=>simp[intOf];omega
  ·have jo:k=l.length:=by omega
   have HE:Hid (dys l=out):=by
    have:=U uA;rw[xb (by omega)] at this;show _ = _;rw[this];simp[dysF]
   have hge:¬ ((k:Int)<l.length):=by omega
   clear uA xM jo;go_wp2_with fail;go_ret;refine⟨_,rfl,?_,U HB⟩;rw[U HE];exact U HO
theorem zj {W:World}{b n j:Nat}(h:W.there b 0 n)(hj:j<n):∃u,W.cell? (J b j)=some u/\W.frozen? (J b j)=false:=by
 obtain⟨D,Y⟩:=h j hj;rw[Nat.zero_add] at D Y;obtain⟨u,hu⟩:=Option.isSome_iff_exists.1 D;exact⟨u,hu,Y⟩
theorem fN {x:List Bool}{n j:Nat}(hx:x.length=n)(hj:j<n):x[j]? = some false\/x[j]? = some true:=by
 rw[yI (by omega)];cases x[j] <;> simp
end Go.Proofs.YthhkapcbocgcoaaGreatDoor
