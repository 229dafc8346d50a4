/-.-/
import Derived.Test.YthhkapcbocgcoaaGreatDoorKj08
set_option linter.unusedVariables false
set_option maxHeartbeats 6400000
set_option maxRecDepth 100000
namespace Go.Proofs.YthhkapcbocgcoaaGreatDoor
open Go.RowKit
def fdyF:List Od->Nat->Int
 | [],_=>-1
 | o::r,k=>if o.life=1 then k else fdyF r (k+1)
def fdy (l:List Od):Int:=fdyF l 0
theorem isOfDay_any (o:Od)(w:World) :
  Calls Tryz.prog 108 #[.agg (yw o.id o.side o.ticks o.left o.life o.tag).toArray] w fun e w'=>e=ym (.bool (o.life==1))/\yn w w':=by
 obtain⟨uU,side,ticks,left,life,tag⟩:=o;simp only;go_enter Tryz.func108,Tryz.ntmps108;go_wp2_with fail;go_ret;exact⟨rfl,by go_grown⟩
theorem indexDay_any (v:Value)(l:List Od)(w:World)(hr:RdR Od.vs 6 w v l) :
  Calls Tryz.prog 107 #[v,.func (.func 108) #[] #[]] w fun e w'=>e=ym (H (fdy l))/\yn w w':=by
 obtain⟨a,cap,rfl,xC,hc⟩:=hr
 have xt:∀(k:Nat) (c:Od),l[k]? = some c->∃b off,a=some (J b off)/\b<w.heap.size/\w.rangeAt b (off+k*6) c.vs:=by
  intro k c hk;obtain⟨b,off,D,Y,h3⟩:=hc (by intro h;rw[h] at hk;simp at hk);exact⟨b,off,D,Y,h3 k c hk⟩
 have HC:=Z xt;clear xt hc;go_enter Tryz.func107,Tryz.ntmps107;go_wp2_with fail;go_loopw [8] (fun iv wr=>∃(k:Nat),k<=l.length/\iv=H k/\Hid (fdy l=fdyF (l.drop k) k)/\yn w wr) (fun iv _=>l.length-(intOf iv).toNat)
 case atStart=>exact⟨0,Nat.zero_le _,rfl,rfl,Below.refl _ _⟩
 case round =>
  obtain⟨k,hk,rfl,uA,xo⟩:=hrel;have HB:=Z xo;clear xo
  by_cases xM:k<l.length
  ·obtain⟨c,vf⟩:∃c,l[k]? = some c:=⟨_,yI xM⟩
   have HP:Hid (fdy l=if c.life=1 then(k:Int) else fdyF (l.drop (k+1)) (k+1)):=by
    have:=U uA;rw[drop_get vf] at this;exact this
   obtain⟨b,off,rfl,E,xn⟩:=U HC k c vf;obtain⟨g0,g1,g2,g3,g4,g5⟩:=zF (zc xn (U HB) E);have uL:(k:Int)<l.length:=by omega
   clear vf xn E uA;go_wp2_with fail;refine(isOfDay_any c wr).mono ?_;rintro e w3 ⟨rfl,xL⟩;have xI:=Z (mr (U HB) xL);clear xL
   by_cases uk:c.life=1
   ·have E:(c.life==1)=true:=by simpa using uk
    have HK:Hid (fdy l=k):=by have:=U HP;rw[if_pos uk] at this;exact this
    clear uk;go_wp2_with fail;go_ret;exact⟨zB (U HK).symm,U xI⟩
   ·have E:(c.life==1)=false:=by simpa using uk
    have HK:Hid (fdy l=fdyF (l.drop (k+1)) (k+1)):=by have:=U HP;rw[if_neg uk] at this;exact this
    clear uk;go_wp2_with fail;go_roundw
    case rel=>exact⟨k+1,by omega,by go_num,U HK,U xI⟩
    case measure=>simp[intOf];omega
  ·have HK:Hid (fdy l = -1):=by
    have h:=U uA;rw[xb (by omega)] at h;exact h
   go_wp2_with fail;go_ret;exact⟨zB (U HK).symm,U HB⟩
end Go.Proofs.YthhkapcbocgcoaaGreatDoor
