/-.-/
import Derived.Test.YtkofhemdefffpaaGreatDoorPq06
import Derived.Test.YtkofhemdefffpaaGreatDoorPq09
set_option linter.unusedVariables false
set_option maxHeartbeats 6400000
set_option maxRecDepth 100000
namespace Go.Proofs.YtkofhemdefffpaaGreatDoor
open Go.RowKit
structure RW (C:Nat->Value->Prop) (n:Nat) (T:World->World) (base:World) (x:List Bool) (f:Nat->Value) (W:World):Prop where
 c:∀j,x[j]? = some true->C j (f j)
 b:x[n]? = some false->Below base.heap.size base W
 m:x[n]? = some true->∃V,Below base.heap.size base V/\W=T V
def RWA (hg:(Nat->Value)->Act)(C:Nat->Value->Prop)(n:Nat)(T:World->World)(base:World)(x:List Bool)(md:Act)(W:World):Prop:=∃f,md=hg f/\RW C n T base x f W
section
variable {C:Nat->Value->Prop} {n:Nat} {T:World->World} {base W W':World} {x:List Bool} {f:Nat->Value}
theorem dx (h:RW C n T base x f W)(i:Nat)(v:Value)(hv:C i v)(hn:i≠n):RW C n T base (x.set i true) (upd f i v) W:=by
 refine⟨zP h.c hv,?_,?_⟩ <;> rw[gq hn]
 ·exact h.b
 ·exact h.m
theorem rw_grow (h:RW C n T base x f W)(hn:x[n]? = some false)(K:yp W W'):RW C n T base x f W':=
 ⟨h.c,fun e=>(h.b e).trans (K.mono (h.b e).size),fun e=>by rw[hn] at e;cases e⟩
theorem rw_last (h:RW C n T base x f W)(hn:x[n]? = some false)(hc:∀j,j=n->x[j]? = some false->C j (f j)):RW C n T base (x.set n true) f (T W):=by
 refine⟨fun j hj=>?_,?_,fun _=>⟨W,h.b hn,rfl⟩⟩
 ·by_cases hji:j=n
  ·exact hc j hji (by rw[hji];exact hn)
  ·rw[gq (fun e=>hji e.symm)] at hj;exact h.c j hj
 ·intro e;rw[gqs hn] at e;cases e
end
theorem rw_lastv {C:Nat->Value->Prop}{n:Nat}{T:World->World}{base W:World}{x:List Bool}{f:Nat->Value}(h:RW C n T base x f W)(hn:x[n]? = some false){v:Value}(hv:C n v):RW C n T base (x.set n true) (upd f n v) (T W):=by
 refine⟨zP h.c hv,?_,fun _=>⟨W,h.b hn,rfl⟩⟩;intro e;rw[gqs hn] at e;cases e
def CVw (vs:List (Option Value))(P:Nat->Prop)(j:Nat)(v:Value):Prop:=(∀u,vs[j]? = some (some u)->v=u)/\P j
def fdyF:List Od->Nat->Int
 | [],_=>-1
 | o::r,k=>if o.life=1 then k else fdyF r (k+1)
def fdy (l:List Od):Int:=fdyF l 0
theorem isOfDay_any (o:Od)(w:World) :
  Calls Tryz.prog 127 #[.agg (yx o.id o.side o.ticks o.left o.life o.tag).toArray] w fun e w'=>e=yn (.bool (o.life==1))/\yp w w':=by
 obtain⟨vh,side,ticks,left,life,tag⟩:=o;simp only;go_enter Tryz.func127,Tryz.ntmps127;go_wp2_with fail;go_ret;exact⟨rfl,by go_grown⟩
theorem indexDay_any (v:Value)(l:List Od)(w:World)(hr:RdR Od.vs 6 w v l) :
  Calls Tryz.prog 147 #[v,.func (.func 127) #[] #[]] w fun e w'=>e=yn (H (fdy l))/\yp w w':=by
 obtain⟨a,cap,rfl,xC,hc⟩:=hr
 have xp:∀(k:Nat) (c:Od),l[k]? = some c->∃b off,a=some (Y b off)/\b<w.heap.size/\w.rangeAt b (off+k*6) c.vs:=by
  intro k c E;obtain⟨b,off,Z,Q,I⟩:=hc (by intro h;rw[h] at E;simp at E);exact⟨b,off,Z,Q,I k c E⟩
 have HC:=U xp;clear xp hc;go_enter Tryz.func147,Tryz.ntmps147;go_wp2_with fail;go_loopw [8] (fun iv wr=>∃(k:Nat),k<=l.length/\iv=H k/\Hid (fdy l=fdyF (l.drop k) k)/\yp w wr) (fun iv _=>l.length-(intOf iv).toNat)
 case atStart=>exact⟨0,Nat.zero_le _,rfl,rfl,Below.refl _ _⟩
 case round =>
  obtain⟨k,E,rfl,uO,xl⟩:=hrel;have HB:=U xl;clear xl
  by_cases xK:k<l.length
  ·obtain⟨c,vX⟩:∃c,l[k]? = some c:=⟨_,yI xK⟩
   have HP:Hid (fdy l=if c.life=1 then(k:Int) else fdyF (l.drop (k+1)) (k+1)):=by
    have:=O uO;rw[drop_get vX] at this;exact this
   obtain⟨b,off,rfl,K,xo⟩:=O HC k c vX;obtain⟨g0,g1,g2,g3,g4,g5⟩:=zL (zf xo (O HB) K);have ux:(k:Int)<l.length:=by omega
   clear vX xo K uO;go_wp2_with fail;refine(isOfDay_any c wr).mono ?_;rintro e w3 ⟨rfl,xV⟩;have xL:=U (mf (O HB) xV);clear xV
   by_cases vl:c.life=1
   ·have K:(c.life==1)=true:=by simpa using vl
    have HK:Hid (fdy l=k):=by have:=O HP;rw[if_pos vl] at this;exact this
    clear vl;go_wp2_with fail;go_ret;exact⟨zt (O HK).symm,O xL⟩
   ·have K:(c.life==1)=false:=by simpa using vl
    have HK:Hid (fdy l=fdyF (l.drop (k+1)) (k+1)):=by have:=O HP;rw[if_neg vl] at this;exact this
    clear vl;go_wp2_with fail;go_roundw
    case rel=>exact⟨k+1,by omega,by go_num,O HK,O xL⟩
    case measure=>simp[intOf];omega
  ·have HK:Hid (fdy l = -1):=by
    have h:=O uO;rw[xb (by omega)] at h;exact h
   go_wp2_with fail;go_ret;exact⟨zt (O HK).symm,O HB⟩
theorem infoIn:(Tryz.prog.info? 3).map (fun i=>(i.zero,i.size,i.bytes))=some (some (H 0),1,8):=by kernel_rfl
def dysF:List Od->Nat->List Nat
 | [],_=>[]
 | o::r,k=>if o.life=1 then k::dysF r (k+1) else dysF r (k+1)
def dys (l:List Od):List Nat:=dysF l 0
def nval (k:Nat):Value:=H k
abbrev IRow (W:World)(B:Nat)(v:Value)(l:List Nat):Prop:=W.ownsRow B 3 1 v l.length (l.map nval)
theorem drop_getD {l:List Od}{k:Nat}{c:Od}(h:l[k]? = some c):l.drop k=c::l.drop (k+1):=by
 obtain⟨Z,rfl⟩:=yH.1 h;exact xd Z
theorem l04Days_any (v:Value)(l:List Od)(w:World)(hr:RdR Od.vs 6 w v l)(hn:l.length<=1000) :
  Calls Tryz.prog 32 #[v] w fun e w'=>∃v',e = .returned v'/\IRow w' w.heap.size v' (dys l)/\yp w w':=by
 obtain⟨a,cap,rfl,xC,hc⟩:=hr;obtain⟨i0,uo,ub,xX,uh⟩:=info_parts infoIn
 have xp:∀(k:Nat) (c:Od),l[k]? = some c->∃b off,a=some (Y b off)/\b<w.heap.size/\w.rangeAt b (off+k*6) c.vs:=by
  intro k c E;obtain⟨b,off,Z,Q,I⟩:=hc (by intro h;rw[h] at E;simp at E);exact⟨b,off,Z,Q,I k c E⟩
 have HC:=U xp;clear xp hc;have bB:=U (World.ownsRow_made (base:=w.heap.size) (e:=3) (size:=1) w #[] 0 yb (by decide) rfl);have vf:Hid (yp w (w.alloc (me #[] 3))):=mc _ _;go_enter Tryz.func32,Tryz.ntmps32;go_wp2_with fail;go_loopw [3,4] (fun ov iv wr=>∃(k:Nat) (out:List Nat),k<=l.length/\iv=H k/\Hid (dys l=out++dysF (l.drop k) k)/\out.length<=k/\IRow wr w.heap.size ov out/\yp w wr) (fun _ iv _=>l.length-(intOf iv).toNat)
 case atStart=>exact⟨0,[],Nat.zero_le _,rfl,rfl,Nat.le_refl _,O bB,O vf⟩
 case round =>
  obtain⟨k,out,E,rfl,uO,pe,xu,xl⟩:=hrel;have HB:=U xl;have HO:=U xu;have ko:=xl.size;clear xl xu bB vf
  by_cases xK:k<l.length
  ·obtain⟨c,vX⟩:∃c,l[k]? = some c:=⟨_,yI xK⟩
   have HP:Hid (dys l=out++if c.life=1 then k::dysF (l.drop (k+1)) (k+1) else dysF (l.drop (k+1)) (k+1)):=by
    have:=O uO;rw[drop_getD vX] at this;exact this
   obtain⟨b,off,rfl,K,xo⟩:=O HC k c vX;obtain⟨g0,g1,g2,g3,g4,g5⟩:=zL (zf xo (O HB) K);have ux:(k:Int)<l.length:=by omega
   clear vX xo K uO
   by_cases vl:c.life=1
   ·have HP1:Hid (dys l=(out ++ [k])++dysF (l.drop (k+1)) (k+1)):=by
     have:=O HP;rw[if_pos vl] at this;show _ = _;rw[this];simp
    rw[vl] at g4;clear HP vl;go_wp2_with (at_builtin;go_must (refine wpList_append_own _ rfl _ _ 80 rfl w.heap.size 3 i0 _ 1 8 Tryz.underlying80 uo ub xX uh rfl (by decide) _ out.length (out.map nval) rfl ((O HO).alloc _) (Y wr.heap.size 0) 1 1 [nval k] rfl rfl (cellsQ wr _ _) (by simp[Value.oneCell',nval]) (by unfold maxLen;omega) (by omega) (by simp;omega) ?_);intro v4 w4 kj jH _;have kT:=U kj;have xQ:=U (((O HB).alloc ko _).grown jH (by rw[zi];omega) (fun k E=>((O HO).lt k E).1));clear kj jH)
    go_roundw
    case rel=>exact⟨k+1,out ++ [k],by omega,by go_num,O HP1,by simp;omega,by show World.ownsRow _ _ _ _ _ _ _;simpa using O kT,O xQ⟩
    case measure=>simp[intOf];omega
   ·have HP1:Hid (dys l=out++dysF (l.drop (k+1)) (k+1)):=by
     have:=O HP;rw[if_neg vl] at this;exact this
    clear HP;go_wp2_with fail;go_roundw
    case rel=>exact⟨k+1,out,by omega,by go_num,O HP1,by omega,O HO,O HB⟩
    case measure=>simp[intOf];omega
  ·have oB:k=l.length:=by omega
   have HE:Hid (dys l=out):=by
    have:=O uO;rw[xb (by omega)] at this;show _ = _;rw[this];simp[dysF]
   have hge:¬ ((k:Int)<l.length):=by omega
   clear uO xK oB;go_wp2_with fail;go_ret;refine⟨_,rfl,?_,O HB⟩;rw[O HE];exact O HO
theorem specBookOK_any (next:Int)(v:Value)(l:List Od)(w:World)(hr:RdR Od.vs 6 w v l)(F:∀c∈l,c.tag.size<=maxLen) :
  Calls Tryz.prog 12 #[.agg #[H next,v]] w fun e w'=>e = .returned (.bool (okS next l))/\yp w w':=by
 have HR:=U hr;have cG:=U F;obtain⟨a,cap,rfl,xC,hc⟩:=hr
 have xp:∀(k:Nat) (c:Od),l[k]? = some c->∃b off,a=some (Y b off)/\b<w.heap.size/\w.rangeAt b (off+k*6) c.vs:=by
  intro k c E;obtain⟨b,off,Z,Q,I⟩:=hc (by intro h;rw[h] at E;simp at E);exact⟨b,off,Z,Q,I k c E⟩
 have HC:=U xp;clear xp hc F;have vf:Hid (yp w (w.alloc (me #[H next,.slice a l.length cap] 31))):=mc _ _;have vL:=zm w [H next,.slice a l.length cap] 31;have HX:Hid (World.rangeAt (w.alloc (me #[H next,.slice a l.length cap] 31)) w.heap.size 0 [H next,.slice a l.length cap]/\w.heap.size<(w.alloc (me #[H next,.slice a l.length cap] 31)).heap.size):=⟨vL,by rw[zi];omega⟩;clear vL;cases Z:betB next 1 1000000
 ·go_enter Tryz.func12,Tryz.ntmps12;go_wp2_with fail;refine(eK next 1 1000000 _).mono ?_;rintro e w1 ⟨rfl,rfl⟩;go_wp2_with fail;go_ret;exact⟨zB (by simp[okS,Z]),O vf⟩
 by_cases Q:l.length<=20
 rotate_left
 ·have ah:(20:Int)<l.length:=by omega
  go_enter Tryz.func12,Tryz.ntmps12;go_wp2_with fail;refine(eK next 1 1000000 _).mono ?_;rintro e w1 ⟨rfl,rfl⟩;go_wp2_with fail;go_ret;exact⟨zB (by simp[okS,Z,Q]),O vf⟩
 have ah:¬ ((20:Int)<l.length):=by omega
 go_enter Tryz.func12,Tryz.ntmps12;go_wp2_with fail;refine(eK next 1 1000000 _).mono ?_;rintro e w1 ⟨rfl,rfl⟩;go_wp2_with fail;generalize (w.alloc (me #[H next,.slice a l.length cap] 31))=W1 at vf HX |-;have hsw:=(O HX).2;go_loopw [3] (fun iv wr=>∃(i:Nat) (last:Int),i<=l.length/\iv=H i/\Hid (allR next 0 l=allR next last (l.drop i))/\0<=last/\(i=0->last=0)/\(∀j,i=j+1->∃p,l[j]? = some p/\p.id=last)/\yp W1 wr) (fun iv _=>l.length-(intOf iv).toNat)
 case atStart=>exact⟨0,0,Nat.zero_le _,rfl,rfl,Int.le_refl _,fun _=>rfl,fun j hj=>by omega,Below.refl _ _⟩
 case round =>
  obtain⟨i,last,hi,rfl,X,oJ,hz,hp,xl⟩:=hrel;have HB:=U xl;have HP:=U hp;have hbox:=zf (O HX).1 xl hsw;have x0:wr.cell? (Y w.heap.size 0)=some (H next):=hbox 0 _ rfl;have x1:wr.cell? (Y w.heap.size 1)=some (.slice a l.length cap):=hbox 1 _ rfl;have HBOX:=U hbox;clear xl hp hbox
  by_cases xK:i<l.length
  ·obtain⟨c,vX⟩:∃c,l[i]? = some c:=⟨_,yI xK⟩
   have jm:l.drop i=c::l.drop (i+1):=by
    obtain⟨Z,rfl⟩:=yH.1 vX;exact xd Z
   have HI:Hid (allR next 0 l=(ordB c&&decide (last<c.id)&&decide (c.id<next)&&allR next c.id (l.drop (i+1)))):=by
    have:=O X;rw[jm] at this;exact this
   obtain⟨b,off,rfl,K,xo⟩:=O HC i c vX;have hb01:=(O vf).trans ((O HB).mono (O vf).size);obtain⟨g0,g1,g2,g3,g4,g5⟩:=zL (zf xo hb01 K);have HS:=U (O cG c (yP vX));have oQ:=U vX;have ux:(i:Int)<l.length:=by omega
   have hszr:=(O HB).size;have pj:=U hb01;clear vX xo jm X hb01;go_wp2_with fail;generalize hW4:(wr.alloc (me (yx c.id c.side c.ticks c.left c.life c.tag).toArray 71))=W4
   have pL:Hid (W4.rangeAt wr.heap.size 0 c.vs/\W4.rangeAt w.heap.size 0 [H next,.slice (some (Y b off)) l.length cap]/\yp W1 W4/\W4.heap.size=wr.heap.size+1/\yp wr W4):=by
    subst hW4;have hbb:=mc wr (me (yx c.id c.side c.ticks c.left c.life c.tag).toArray 71);exact⟨zm wr c.vs _,zf (O HBOX) hbb (by omega),(O HB).alloc hszr _,zi _ _,hbb⟩
   have jr:Hid (∀w',W4.grownBy w' none->w'.rangeAt wr.heap.size 0 c.vs/\w'.rangeAt w.heap.size 0 [H next,.slice (some (Y b off)) l.length cap]):=fun w' h' =>
    ⟨zv (O pL).1 h' (by rw[(O pL).2.2.2.1];omega) (by simp),zv (O pL).2.1 h' (by rw[(O pL).2.2.2.1];omega) (by simp)⟩
   have HPREV:Hid (∀j p,i=j+1->l[j]? = some p->∀w',W4.grownBy w' none->w'.rangeAt b (off+j*6) p.vs):=fun j p hj hpj w' h'=>by
    obtain⟨b',qw,kD,cO,kE⟩:=O HC j p hpj;simp only[Option.some.injEq,Addr.mk.injEq,and_true] at kD;obtain⟨rfl,rfl⟩:=kD;exact zv (zf (zf kE (O pj) K) (O pL).2.2.2.2 (yK K (O pj).size)) h' (by rw[(O pL).2.2.2.1];have:=(O pj).size;omega) (by simp)
   have HORD:Hid (∀W,Calls Tryz.prog 25 #[.agg (yx c.id c.side c.ticks c.left c.life c.tag).toArray] W fun e w'=>e = .returned (.bool (ordB c))/\W.grownBy w' none):=fun W=>(l03Order_any c W (O HS)).mono fun e w' h=>⟨h.1,ft h.2 yb⟩;clear hW4 g0 g1 g2 g3 g4 g5 x0 x1
   haveI:=gw_ne W4
   have k0:∀u:GW W4,u.val.cell? (Y wr.heap.size 0)=some (H c.id):=fun u=>(O jr u.val u.property).1 0 _ rfl;have k1:∀u:GW W4,u.val.cell? (Y wr.heap.size 1)=some (H c.side):=fun u=>(O jr u.val u.property).1 1 _ rfl;have k2:∀u:GW W4,u.val.cell? (Y wr.heap.size 2)=some (H c.ticks):=fun u=>(O jr u.val u.property).1 2 _ rfl;have k3:∀u:GW W4,u.val.cell? (Y wr.heap.size 3)=some (H c.left):=fun u=>(O jr u.val u.property).1 3 _ rfl;have k4:∀u:GW W4,u.val.cell? (Y wr.heap.size 4)=some (H c.life):=fun u=>(O jr u.val u.property).1 4 _ rfl;have k5:∀u:GW W4,u.val.cell? (Y wr.heap.size 5)=some (yl c.tag):=fun u=>(O jr u.val u.property).1 5 _ rfl;have m0:∀u:GW W4,u.val.cell? (Y w.heap.size 0)=some (H next):=fun u=>(O jr u.val u.property).2 0 _ rfl;have m1:∀u:GW W4,u.val.cell? (Y w.heap.size 1)=some (.slice (some (Y b off)) l.length cap):=fun u=>(O jr u.val u.property).2 1 _ rfl;cases D:ordB c
   ·have HN:Hid (allR next 0 l=false):=by
     show _ = _;rw[O HI,D];simp
    refine iB (W:=W4) (by kernel_rfl) (by kernel_rfl) (yS _ _) ?_
    repeat (go_big_quiet_step ((rename_i u;refine(O HORD u.val).mono ?_;rintro e w3 ⟨rfl,ua⟩;exact⟨rfl,⟨w3,u.property.trans ua⟩,rfl⟩)))
    refine wpQuiet_nil ?_;rintro _ ⟨⟨w5,vR⟩,rfl⟩;have uY:=U ((O pL).2.2.1.grown vR (by rw[(O pL).2.2.2.1];omega) (fun g F=>by cases F));clear vR;go_wp2_with fail;go_ret;exact⟨zB (by rw[okS,O HN];simp),(O vf).trans ((O uY).mono (O vf).size)⟩
   by_cases jX:c.id<1
   ·have qd:¬ last<c.id:=by omega
    have hd1:decide (c.id<1)=true:=by simpa using jX
    have HN:Hid (allR next 0 l=false):=by
     show _ = _;rw[O HI,decide_eq_false qd];simp
    refine iB (W:=W4) (by kernel_rfl) (by kernel_rfl) (yS _ _) ?_
    repeat (go_big_quiet_step ((rename_i u;refine(O HORD u.val).mono ?_;rintro e w3 ⟨rfl,ua⟩;exact⟨rfl,⟨w3,u.property.trans ua⟩,rfl⟩)))
    refine wpQuiet_nil ?_;rintro _ ⟨⟨w5,vR⟩,rfl⟩;have uY:=U ((O pL).2.2.1.grown vR (by rw[(O pL).2.2.2.1];omega) (fun g F=>by cases F));clear vR;go_wp2_with fail;go_ret;exact⟨zB (by rw[okS,O HN];simp),(O vf).trans ((O uY).mono (O vf).size)⟩
   have hd1:decide (c.id<1)=false:=by simpa using jX
   by_cases hcn:c.id<next
   rotate_left
   ·have hd2:decide (next<=c.id)=true:=by simp;omega
    have HN:Hid (allR next 0 l=false):=by
     show _ = _;rw[O HI,decide_eq_false hcn];simp
    refine iB (W:=W4) (by kernel_rfl) (by kernel_rfl) (yS _ _) ?_
    repeat (go_big_quiet_step ((rename_i u;refine(O HORD u.val).mono ?_;rintro e w3 ⟨rfl,ua⟩;exact⟨rfl,⟨w3,u.property.trans ua⟩,rfl⟩)))
    refine wpQuiet_nil ?_;rintro _ ⟨⟨w5,vR⟩,rfl⟩;have uY:=U ((O pL).2.2.1.grown vR (by rw[(O pL).2.2.2.1];omega) (fun g F=>by cases F));clear vR;go_wp2_with fail;go_ret;exact⟨zB (by rw[okS,O HN];simp),(O vf).trans ((O uY).mono (O vf).size)⟩
   have hd2:decide (next<=c.id)=false:=by simpa using hcn
   cases i with
   | zero =>
    have qd:last<c.id:=by have:=hz rfl;omega
    have HN:Hid (allR next 0 l=allR next c.id (l.drop (0+1))):=by
     show _ = _;rw[O HI,D,decide_eq_true qd,decide_eq_true hcn];rfl
    refine iB (W:=W4) (by kernel_rfl) (by kernel_rfl) (yS _ _) ?_
    repeat (go_big_quiet_step ((rename_i u;refine(O HORD u.val).mono ?_;rintro e w3 ⟨rfl,ua⟩;exact⟨rfl,⟨w3,u.property.trans ua⟩,rfl⟩)))
    refine wpQuiet_nil ?_;rintro _ ⟨⟨w5,vR⟩,rfl⟩;have uY:=U ((O pL).2.2.1.grown vR (by rw[(O pL).2.2.2.1];omega) (fun g F=>by cases F));clear vR;go_wp2_with fail;go_roundw
    case rel=>exact⟨0+1,c.id,by omega,by go_num,O HN,by omega,fun h=>by omega,fun j' pO=>⟨c,by rw[show j'=0 by omega];exact O oQ,rfl⟩,O uY⟩
    case measure=>simp[intOf];omega
   | succ j =>
    obtain⟨p,hpj,uO⟩:=O HP j rfl;have q0:∀u:GW W4,u.val.cell? (Y b (off+j*6))=some (H p.id):=fun u=>(zL (O HPREV j p rfl hpj u.val u.property)).1;have pd:((j+1:Nat):Int)=(j:Int)+1:=by omega
    have hjl:(j:Int)<l.length:=by omega
    have hwj:IntKind.i64.wrap ((j:Int)+1-1)=(j:Int):=by rw[IntKind.wrap_i64];omega
    have jL:decide ((0:Int)<(j:Int)+1)=true:=by rw[xg];omega
    clear hpj
    by_cases qd:last<c.id
    ·have hd3:decide (c.id<=p.id)=false:=by rw[uO];simpa using qd
     have HN:Hid (allR next 0 l=allR next c.id (l.drop ((j+1)+1))):=by
      show _ = _;rw[O HI,D,decide_eq_true qd,decide_eq_true hcn];rfl
     refine iB (W:=W4) (by kernel_rfl) (by kernel_rfl) (yS _ _) ?_
     repeat (go_big_quiet_step ((rename_i u;refine(O HORD u.val).mono ?_;rintro e w3 ⟨rfl,ua⟩;exact⟨rfl,⟨w3,u.property.trans ua⟩,rfl⟩)))
     refine wpQuiet_nil ?_;rintro _ ⟨⟨w5,vR⟩,rfl⟩;have uY:=U ((O pL).2.2.1.grown vR (by rw[(O pL).2.2.2.1];omega) (fun g F=>by cases F));clear vR;go_wp2_with fail;go_roundw
     case rel=>exact⟨(j+1)+1,c.id,by omega,by go_num,O HN,by omega,fun h=>by omega,fun j' pO=>⟨c,by rw[show j'=(j+1) by omega];exact O oQ,rfl⟩,O uY⟩
     case measure=>simp[intOf];omega
    ·have hd3:decide (c.id<=p.id)=true:=by rw[uO];simpa using qd
     have HN:Hid (allR next 0 l=false):=by
      show _ = _;rw[O HI,decide_eq_false qd];simp
     refine iB (W:=W4) (by kernel_rfl) (by kernel_rfl) (yS _ _) ?_
     repeat (go_big_quiet_step ((rename_i u;refine(O HORD u.val).mono ?_;rintro e w3 ⟨rfl,ua⟩;exact⟨rfl,⟨w3,u.property.trans ua⟩,rfl⟩)))
     refine wpQuiet_nil ?_;rintro _ ⟨⟨w5,vR⟩,rfl⟩;have uY:=U ((O pL).2.2.1.grown vR (by rw[(O pL).2.2.2.1];omega) (fun g F=>by cases F));clear vR;go_wp2_with fail;go_ret;exact⟨zB (by rw[okS,O HN];simp),(O vf).trans ((O uY).mono (O vf).size)⟩
  ·have hallT:allR next 0 l=true:=by
    have h:=O X;rw[xb (by omega)] at h;rw[h];rfl
   have HALL:=U hallT;have HRI:=U (lI hallT).1;have pj:=U ((O vf).trans ((O HB).mono (O vf).size));have HRr:=U (zq (O HR) (O pj) yb);have hszr:w.heap.size<wr.heap.size:=yK hsw (O HB).size;clear X hallT;go_wp2_with fail;refine(l03Levels_any _ l wr (O HRr) (by omega)).mono ?_;rintro e w3 ⟨rfl,ua⟩;have uL:=U ua;have z1:w3.cell? (Y w.heap.size 1)=some (.slice a l.length cap):=ua.cell x1 (by simp);have jP:=U (rdR_grown (O HRr) ua (fun g F=>by cases F));clear ua x0 x1
   by_cases h8:nlev l<=8
   rotate_left
   ·have h8':(8:Int)<(nlev l:Nat):=by omega
    go_wp2_with fail;go_ret;refine⟨zB (by simp[okS,h8]),?_⟩;exact(O pj).trans ((lm (O uL) (fun g F=>by cases F) yb).mono (O pj).size)
   have h8':¬ ((8:Int)<(nlev l:Nat)):=by omega
   have jj:Hid (okS next l=noX l):=by
    show _ = _;rw[okS,Z,decide_eq_true Q,O HALL,decide_eq_true h8];rfl
   go_wp2_with fail;refine(lG _ l 1 w3 (O jP) (O HRI) (by omega)).mono ?_;rintro e w4 ⟨kb,rfl,bT,jH⟩;have uX:=U ((O uL).trans jH);have y1:w4.cell? (Y w.heap.size 1)=some (.slice a l.length cap):=jH.cell z1 (by simp);have oS:=U (rdR_grown (O jP) jH (fun g F=>by cases F));have HF1:=U bT;clear jH bT z1;go_wp2_with fail;refine(lG _ l 2 w4 (O oS) (O HRI) (by omega)).mono ?_;rintro e w5 ⟨ks,rfl,hf2,vR⟩;have uE:=U ((O uX).trans vR);have v1:w5.cell? (Y w.heap.size 1)=some (.slice a l.length cap):=vR.cell y1 (by simp);have HF2:=U hf2;have uC:=U ((O pj).trans ((lm (O uE) (fun g F=>by cases F) yb).mono (O pj).size));clear vR hf2 y1;rcases frPre_end (O HF1) with⟨rfl,hno1⟩|⟨ib,ob,rfl,hib,pN⟩
   ·have HN:=U (noX_none1 hno1);clear hno1;go_wp2_with fail;go_quiet (fail);go_wp2_with fail;go_ret;exact⟨zB (by rw[O jj,O HN]),⟨(O uC).os,(O uC).tape,(O uC).output,(O uC).size,(O uC).block⟩⟩
   have hib0:decide ((ib:Int)<0)=false:=by simp
   rcases frPre_end (O HF2) with⟨rfl,hno2⟩|⟨is,os,rfl,his,hfs⟩
   ·have HN:=U (noX_none2 hno2);clear hno2;go_wp2_with fail;go_quiet (fail);go_wp2_with fail;go_ret;exact⟨zB (by rw[O jj,O HN]),⟨(O uC).os,(O uC).tape,(O uC).output,(O uC).size,(O uC).block⟩⟩
   have his0:decide ((is:Int)<0)=false:=by simp
   have HN:=U (noX_fronts pN hfs);obtain⟨b,off,rfl,K,hcb⟩:=O HC ib ob pN.1;obtain⟨b',qw,kD,cO,oZ⟩:=O HC is os hfs.1;simp only[Option.some.injEq,Addr.mk.injEq,and_true] at kD;obtain⟨rfl,rfl⟩:=kD;obtain⟨-,-,t1,-⟩:=zL (zf hcb (O uC) K);obtain⟨-,-,t2,-⟩:=zL (zf oZ (O uC) K);have hib':(ib:Int)<l.length:=by omega
   have his':(is:Int)<l.length:=by omega
   clear pN hfs hcb oZ;go_wp2_with fail;go_quiet (fail);go_wp2_with fail;go_ret;exact⟨zB (by rw[O jj,O HN]),⟨(O uC).os,(O uC).tape,(O uC).output,(O uC).size,(O uC).block⟩⟩
end Go.Proofs.YtkofhemdefffpaaGreatDoor
