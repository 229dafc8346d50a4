/-.-/
import Derived.Test.YthhkapcbocgcoaaGreatDoorKj06
import Derived.Test.YthhkapcbocgcoaaGreatDoorKj07
import Derived.Laws.AppendOwnNone
import Derived.Laws.CopyOwn
import Derived.Deep.AppendLies
import Derived.Deep.RegionLaw
import Derived.WalkMore
import Derived.Deep.RegionHeld3
set_option linter.unusedVariables false
set_option maxHeartbeats 6400000
set_option maxRecDepth 100000
namespace Go.Proofs.YthhkapcbocgcoaaGreatDoor
open Go.RowKit

def ofC (c:Cm):Ev:=⟨0,c,0,0,0,0,0⟩
def dY (c d:Cm):Bool:=(c.k==d.k)&&((c.s==d.s)&&((c.t==d.t)&&((c.l==d.l)&&((c.q==d.q)&&((c.i==d.i)&&((fbit c.p==fbit d.p)&&decide (c.g.toList=d.g.toList)))))))
theorem eqVl (c d:Cm)(W:World):(binOp .eql 103 (vlV (ofC c)) (vlV (ofC d))).run Tryz.prog W = .ok (.bool (dY c d)) W:=by
 unfold vlV ofC;simp only;go_simp;unfold dY
 by_cases D:c.k=d.k
 ·by_cases Y:c.s=d.s
  ·by_cases h3:c.t=d.t
   ·by_cases h4:c.l=d.l
    ·by_cases h5:c.q=d.q
     ·by_cases h6:c.i=d.i
      ·by_cases h7:fbit c.p=fbit d.p
       ·by_cases h8:c.g.toList=d.g.toList
        ·simp[D,Y,h3,h4,h5,h6,h7,h8]
        ·simp[D,Y,h3,h4,h5,h6,h7,h8]
       ·have h7':¬ ((fbit c.p:Int)=fbit d.p):=by omega
        have h7b:(fbit c.p==fbit d.p)=false:=by simpa using h7
        rw[if_neg h7',h7b];simp[D,Y,h3,h4,h5,h6]
      ·simp[D,Y,h3,h4,h5,h6]
     ·simp[D,Y,h3,h4,h5]
    ·simp[D,Y,h3,h4]
   ·simp[D,Y,h3]
  ·simp[D,Y]
 ·simp[D]
theorem eqGd (c d:Cm)(W:World):(eqGuard .eql 103 (.tmp 7) (.tmp 10) (vlV (ofC c)) (vlV (ofC d))).run Tryz.prog W = .ok () W:=by
 unfold vlV ofC;simp only;go_simp
def CS (c d:Cm):Nat->Value->Prop
 | 0,v=>v=cmV c
 | 1,v=>v=evV (ofC c)
 | 2,v=>v=vlV (ofC c)
 | 3,v=>v=cmV d
 | 4,v=>v=evV (ofC d)
 | 5,v=>v=vlV (ofC d)
 | 6,v=>v = .bool (dY c d)
 | 7,v=>v = .bool (dY c d)
 | _,_=>True
theorem lz (c d:Cm)(w:World) :
  Calls Tryz.prog 185 #[cmV c,cmV d] w fun e w'=>e=ym (.bool (dY c d))/\yn w w':=by
 have xJ:=zf w (Obj.cells c.vs.toArray 33);have ug:((w.alloc (Obj.cells c.vs.toArray 33)).alloc (Obj.cells d.vs.toArray 33)).heap.size=w.heap.size+1+1:=by rw[zf,xJ]
 have r0:=zc (zm w c.vs 33) (C:=w.heap.size+1) ((Below.refl _ _).alloc (by rw[xJ];omega) (Obj.cells d.vs.toArray 33)) (by omega);have r1:=zm (w.alloc (Obj.cells c.vs.toArray 33)) d.vs 33;rw[xJ] at r1;have ud:Hid (yn w ((w.alloc (Obj.cells c.vs.toArray 33)).alloc (Obj.cells d.vs.toArray 33))):=(mn _ _).alloc (by rw[xJ];omega) _;have HX:Hid (_/\_):=⟨r0,r1⟩;have qf:=Z ug;clear r0 r1 xJ ug;unfold cmV;go_enter Tryz.func185,Tryz.ntmps185;go_wp2_with fail;unfold Cm.vs at ud HX qf;generalize hW:((w.alloc (mq (List.toArray (yx c.k c.s c.t c.l c.q c.i c.p c.g)) 33)).alloc (mq (List.toArray (yx d.k d.s d.t d.l d.q d.i d.p d.g)) 33))=W at ud HX qf;refine iA (RGrow W (fun f=>{ tmps:=#[cmV c,cmV d,yp w 0,I (w.heap.size+1) 0,f 7,f 0,f 1,f 2,f 3,f 4,f 5,f 6],defers:=[] }) (CS c d)) (by kernel_rfl) ?_ ?_ ?_
 ·refine⟨upd (fun _=>M) 7 (.bool false),rfl,?_,fun j hj=>by rw[yJ] at hj;split at hj <;> simp at hj⟩;rw[<- hW];exact⟨rfl,rfl,rfl,Nat.le_refl _,fun _ _=>rfl⟩
 ·rintro x zb V ⟨f,rfl,xo,hC⟩ hx xS;have hall7:=eE xS hx (acyc _ (by kernel_rfl)) 7 (by simp);have e7:f 7 = .bool (dY c d):=hC 7 hall7;simp only[e7];have xK:=Z xo;clear hC hx xS hall7 e7 xo;go_wp2_with fail;go_ret;exact⟨rfl,(U ud).trans ((U xK).mono (U ud).size)⟩
 ·rintro x zb V i o ⟨f,rfl,xo,hC⟩ hx Q xu R;have xK:=Z xo;have HC:=Z hC;have hw0:w.heap.size<W.heap.size:=by rw[U qf];omega
  have qF:w.heap.size+1<W.heap.size:=by rw[U qf];omega
  match i,Q with
  | 0,Q =>
   cases Q;obtain⟨x0,x1,x2,x3,x4,x5,x6,x7⟩:=cm_cells (c:=c) (zc (U HX).1 xo hw0);simp only[Nat.zero_add] at x0 x1 x2 x3 x4 x5 x6 x7;clear R hC xo;go_simp;exact⟨upd f 0 (cmV c),by simp[upd,cmV],U xK,zC (U HC) rfl⟩
  | 1,Q =>
   cases Q;have g0:f 0=cmV c:=hC 0 (ye R 0 rfl);clear R hC xo;rw[if_pos (by rfl)];unfold Oper.wp;unfold cmV at g0;go_simp;exact⟨upd f 1 (evV (ofC c)),by simp[upd,evV,ofC,cmV,g0],U xK,zC (U HC) rfl⟩
  | 2,Q =>
   cases Q;have g1:f 1=evV (ofC c):=hC 1 (ye R 1 rfl);clear R hC xo;go_simp;refine(lC (ofC c) V).mono ?_;rintro e w4 ⟨rfl,xy⟩;exact⟨upd f 2 (vlV (ofC c)),by simp[upd,g1],(U xK).trans (xy.mono (U xK).size),zC (U HC) rfl⟩
  | 3,Q =>
   cases Q;obtain⟨x0,x1,x2,x3,x4,x5,x6,x7⟩:=cm_cells (c:=d) (zc (U HX).2 xo qF);simp only[Nat.zero_add] at x0 x1 x2 x3 x4 x5 x6 x7;clear R hC xo;go_simp;exact⟨upd f 3 (cmV d),by simp[upd,cmV],U xK,zC (U HC) rfl⟩
  | 4,Q =>
   cases Q;have g0:f 3=cmV d:=hC 3 (ye R 3 rfl);clear R hC xo;rw[if_pos (by rfl)];unfold Oper.wp;unfold cmV at g0;go_simp;exact⟨upd f 4 (evV (ofC d)),by simp[upd,evV,ofC,cmV,g0],U xK,zC (U HC) rfl⟩
  | 5,Q =>
   cases Q;have g1:f 4=evV (ofC d):=hC 4 (ye R 4 rfl);clear R hC xo;go_simp;refine(lC (ofC d) V).mono ?_;rintro e w4 ⟨rfl,xy⟩;exact⟨upd f 5 (vlV (ofC d)),by simp[upd,g1],(U xK).trans (xy.mono (U xK).size),zC (U HC) rfl⟩
  | 6,Q =>
   cases Q;have g2:f 2=vlV (ofC c):=hC 2 (ye R 2 rfl);have g5:f 5=vlV (ofC d):=hC 5 (ye R 5 rfl);have he:=eqVl c d V;have X:=eqGd c d V;clear R hC xo;go_simp;exact⟨upd f 6 (.bool (dY c d)),by simp[upd,g2,g5],U xK,zC (U HC) rfl⟩
  | 7,Q =>
   cases Q;have g6:f 6 = .bool (dY c d):=hC 6 (ye R 6 rfl);clear R hC xo;go_simp;exact⟨upd f 7 (.bool (dY c d)),by simp[upd,g6],U xK,zC (U HC) rfl⟩
  | n+8,Q=>simp at Q
def cmdI (c:Cm):Value:=if c.k=1 then .iface 63 (noV c) else if c.k=2 then .iface 214 (.agg #[H c.i]) else if c.k=3 then .iface 216 (.agg #[H c.i,H c.q]) else if c.k=4 then .iface 241 (.agg #[]) else .nilIface
theorem mj (c:Cm)(w:World) :
  Calls Tryz.prog 150 #[cmV c] w fun e w'=>e=ym (noV c)/\yn w w':=by
 obtain⟨k,s,t,l,q,i,p,g⟩:=c;unfold cmV noV;simp only;have hsf:=sfl;go_enter Tryz.func150,Tryz.ntmps150;go_wp2_with fail;go_returns;exact⟨rfl,by go_grown⟩
theorem iQ (c:Cm)(w:World) :
  Calls Tryz.prog 184 #[cmV c] w fun e w'=>e=ym (cmdI c)/\yn w w':=by
 obtain⟨k,s,t,l,q,i,p,g⟩:=c;unfold cmV;simp only
 by_cases D:k=1
 ·subst D;have uf:Hid (yn w (w.alloc (mq (yx 1 s t l q i p g).toArray 33))):=mn _ _;go_enter Tryz.func184,Tryz.ntmps184;go_wp2_with fail;refine(mj ⟨1,s,t,l,q,i,p,g⟩ _).mono ?_;rintro e w' ⟨rfl,E⟩;have xv:=Z (mr (U uf) E);clear E;go_wp2_with fail;go_ret;exact⟨rfl,U xv⟩
 have b1:(k==1)=false:=by simpa using D
 by_cases Y:k=2
 ·subst Y;go_enter Tryz.func184,Tryz.ntmps184;go_wp2_with fail;go_ret;exact⟨rfl,by go_grown⟩
 have b2:(k==2)=false:=by simpa using Y
 by_cases h3:k=3
 ·subst h3;go_enter Tryz.func184,Tryz.ntmps184;go_wp2_with fail;go_ret;exact⟨rfl,by go_grown⟩
 have b3:(k==3)=false:=by simpa using h3
 by_cases h4:k=4
 ·subst h4;go_enter Tryz.func184,Tryz.ntmps184;go_wp2_with fail;go_ret;exact⟨rfl,by go_grown⟩
 have b4:(k==4)=false:=by simpa using h4
 have HC:Hid (cmdI ⟨k,s,t,l,q,i,p,g⟩ = .nilIface):=by show _ = _;simp[cmdI,D,Y,h3,h4]
 go_enter Tryz.func184,Tryz.ntmps184;go_wp2_with fail;go_ret;exact⟨by rw[U HC];rfl,by go_grown⟩
def plcF (id:Int):List Od->Nat->Int
 | [],_=>-1
 | o::r,k=>if o.id=id then k else plcF id r (k+1)
def plc (l:List Od)(id:Int):Int:=plcF id l 0
theorem plcF_spec (id:Int):∀(l:List Od) (k:Nat),(plcF id l k = -1/\∀o∈l,o.id≠id) \/ ∃i o,plcF id l k=((k+i:Nat):Int)/\l[i]? = some o/\o.id=id/\∀j o',j<i->l[j]? = some o'->o'.id≠id
 | [],k=>.inl ⟨rfl,by simp⟩
 | o::r,k=>by
  by_cases h:o.id=id
  ·exact .inr ⟨0,o,by rw[plcF,if_pos h];rfl,rfl,h,by simp⟩
  ·rcases plcF_spec id r (k+1) with⟨D,Y⟩|⟨i,o',D,Y,h3,h4⟩
   ·refine .inl ⟨by rw[plcF,if_neg h,D],fun x hx=>?_⟩;rcases List.mem_cons.1 hx with rfl|hx
    ·exact h
    ·exact Y x hx
   ·refine .inr ⟨i+1,o',by rw[plcF,if_neg h,D];congr 1;omega,Y,h3,fun j x hj hx=>?_⟩;cases j with
    | zero=>simp at hx;subst hx;exact h
    | succ j=>exact h4 j x (by omega) (by simpa using hx)
theorem drop_get {l:List Od}{k:Nat}{c:Od}(h:l[k]? = some c):l.drop k=c::l.drop (k+1):=by
 obtain⟨D,rfl⟩:=yH.1 h;exact xd D
theorem place1_any (o:Od)(B:Nat)(id:Int)(w:World)(hB:w.cell? (J B 0)=some (H id)) :
  Calls Tryz.prog 190 #[.agg (yw o.id o.side o.ticks o.left o.life o.tag).toArray,I B 0] w fun e w'=>e=ym (.bool (o.id==id))/\yn w w':=by
 obtain⟨uU,side,ticks,left,life,tag⟩:=o;simp only;have hB':(w.alloc (mq (yw uU side ticks left life tag).toArray 65)).cell? (J B 0)=some (H id):=(yW _ _ (J B 0) (yL w _ hB)).trans hB;go_enter Tryz.func190,Tryz.ntmps190;go_wp2_with fail;go_ret;exact⟨rfl,by go_grown⟩
theorem indexFunc_any (v:Value)(l:List Od)(B:Nat)(id:Int)(w:World)(hr:RdR Od.vs 6 w v l)(hB:w.cell? (J B 0)=some (H id)) :
  Calls Tryz.prog 107 #[v,.func (.func 190) #[] #[I B 0]] w fun e w'=>e=ym (H (plc l id))/\yn w w':=by
 obtain⟨a,cap,rfl,xC,hc⟩:=hr
 have xt:∀(k:Nat) (c:Od),l[k]? = some c->∃b off,a=some (J b off)/\b<w.heap.size/\w.rangeAt b (off+k*6) c.vs:=by
  intro k c hk;obtain⟨b,off,D,Y,h3⟩:=hc (by intro h;rw[h] at hk;simp at hk);exact⟨b,off,D,Y,h3 k c hk⟩
 have HC:=Z xt;have HBC:=Z hB;have hBl:=yL w _ hB;simp only at hBl;clear xt hc hB;go_enter Tryz.func107,Tryz.ntmps107;go_wp2_with fail;go_loopw [8] (fun iv wr=>∃(k:Nat),k<=l.length/\iv=H k/\Hid (plc l id=plcF id (l.drop k) k)/\yn w wr) (fun iv _=>l.length-(intOf iv).toNat)
 case atStart=>exact⟨0,Nat.zero_le _,rfl,rfl,Below.refl _ _⟩
 case round =>
  obtain⟨k,hk,rfl,uA,xo⟩:=hrel;have HB:=Z xo;clear xo
  by_cases xM:k<l.length
  ·obtain⟨c,vf⟩:∃c,l[k]? = some c:=⟨_,yI xM⟩
   have HP:Hid (plc l id=if c.id=id then(k:Int) else plcF id (l.drop (k+1)) (k+1)):=by
    have:=U uA;rw[drop_get vf] at this;exact this
   obtain⟨b,off,rfl,E,xn⟩:=U HC k c vf;obtain⟨g0,g1,g2,g3,g4,g5⟩:=zF (zc xn (U HB) E);have uL:(k:Int)<l.length:=by omega
   have qk:=Z (((U HB).cell (p:=(J B 0)) hBl).trans (U HBC));clear vf xn E uA;go_wp2_with fail;refine(place1_any c B id wr (U qk)).mono ?_;rintro e w3 ⟨rfl,xL⟩;have xI:=Z (mr (U HB) xL);clear xL
   by_cases uk:c.id=id
   ·have E:(c.id==id)=true:=by simpa using uk
    have HK:Hid (plc l id=k):=by have:=U HP;rw[if_pos uk] at this;exact this
    clear uk;go_wp2_with fail;go_ret;exact⟨zB (U HK).symm,U xI⟩
   ·have E:(c.id==id)=false:=by simpa using uk
    have HK:Hid (plc l id=plcF id (l.drop (k+1)) (k+1)):=by have:=U HP;rw[if_neg uk] at this;exact this
    clear uk;go_wp2_with fail;go_roundw
    case rel=>exact⟨k+1,by omega,by go_num,U HK,U xI⟩
    case measure=>simp[intOf];omega
  ·have HK:Hid (plc l id = -1):=by
    have h:=U uA;rw[xb (by omega)] at h;exact h
   go_wp2_with fail;go_ret;exact⟨zB (U HK).symm,U HB⟩
theorem iT (next:Int)(v:Value)(l:List Od)(id:Int)(w:World)(hr:RdR Od.vs 6 w v l) :
  Calls Tryz.prog 156 #[.agg #[H next,v],H id] w fun e w'=>e=ym (H (plc l id))/\yn w w':=by
 have HR:=Z hr;obtain⟨a,cap,rfl,xC,hc⟩:=hr;have hmf:∀(fn:Fn) (first cap:Array Value) (w:World),(Instr.makeFunc fn first cap).run Tryz.prog w = .ok (.func fn first cap) w:=fun _ _ _ _=>rfl;have xJ:=zf w (mq #[H next,.slice a l.length cap] 27);have r1:=zm (w.alloc (mq #[H next,.slice a l.length cap] 27)) [H id] 3;rw[xJ] at r1;have HX:=Z (r1 0 _ rfl);have ud:Hid (yn w ((w.alloc (mq #[H next,.slice a l.length cap] 27)).alloc (mq #[H id] 3))):=(mn _ _).alloc (by rw[xJ];omega) _;clear hc r1 xJ;go_enter Tryz.func156,Tryz.ntmps156;go_wp2_with fail;have HX:Hid (World.cell? ((w.alloc (mq #[H next,.slice a l.length cap] 27)).alloc (mq #[H id] 3)) (J (w.heap.size+1) 0)=some (H id)):=U HX;generalize ((w.alloc (mq #[H next,.slice a l.length cap] 27)).alloc (mq #[H id] 3))=W2 at HX ud |-;refine(indexFunc_any _ l (w.heap.size+1) id W2 (zi (U HR) (U ud) ya) (U HX)).mono ?_;rintro e w3 ⟨rfl,xL⟩;have xI:=Z (mr (U ud) xL);clear xL;go_wp2_with fail;go_ret;exact⟨rfl,U xI⟩
def SlOk (v:Value):Prop:=v = .slice none 0 0 \/ ∃ad n c,v = .slice (some ad) n c
theorem oRow_sl {W:World}{B:Nat}{v:Value}{l:List Od}(h:ORow W B v l):SlOk v:=by
 rcases h.2 with⟨D,_⟩|⟨g,cap,xA,D,_⟩
 ·exact .inl D
 ·exact .inr ⟨_,_,_,D⟩
theorem rd_src {W:World}{ad:Addr}{cap:Nat}{l:List Od}(hr:RdR Od.vs 6 W (.slice (some ad) l.length cap) l):∀j u,(l.flatMap Od.vs)[j]? = some u->W.cell? (ad.add j)=some u:=by
 intro j u hu;obtain⟨a',kG,e1,_,hc⟩:=hr;simp only[Value.slice.injEq] at e1;have xr:l ≠ []:=by rintro rfl;simp at hu
 obtain⟨b,off,e2,E,xn⟩:=hc xr;rw[e2] at e1;simp only[Option.some.injEq] at e1;obtain⟨rfl,-,-⟩:=e1;have h:=ie (W:=W) (g:=b) (off:=off) (l:=l) xn 0 l.length j u (by simpa using hu);simpa using h
theorem gf {W:World}{v:Value}{l:List Od}(h:RdR Od.vs 6 W v l):∃a c,v = .slice a l.length c:=by
 obtain⟨a,c,D,_⟩:=h;exact⟨a,c,D⟩
theorem lg {W:World}{b c o k j:Nat}{u:Value}(h:W.there b o k):(W.setCell (J c j) u).there b o k:=xc (vs:=[u]) h c j
theorem fQ {W:World}{B:Nat}{v:Value}{l:List Od}(h:ORow W B v l){b:Nat}(E:b<B)(o:Nat)(u:Value):ORow (W.setCell (J b o) u) B v l:=
 ownsRow_setCell_below h (a:=(J b o)) E u
theorem copy_mid {w W2 w3:World}{S:Nat}{v3 sv:Value}{next:Int}{l:List Od}(hS:S=w.heap.size)(D:Below S w W2)(Y:W2.heap.size=S+2)(h3:W2.rangeAt S 0 [H next,sv])(h4:W2.there S 0 2)(h5:W2.there (S+1) 0 2)(hl:l.length<=1000)
  (h6:w3.ownsRow (S+2) 65 6 v3 (0+l.length) ([]++l.flatMap Od.vs)) (h7:W2.grownBy w3 (Value.slice none 0 0).ownBlock) :
  ∃a3 c3,v3 = .slice a3 l.length c3/\ORow w3 (S+2) v3 l/\w3.cell? (J S 0)=some (H next)/\w3.cell? (J S 1)=some sv/\w3.frozen? (J S 1)=false/\w3.there (S+1) 0 2/\Below S w w3/\S+2<=w3.heap.size:=by
 have h6':ORow w3 (S+2) v3 l:=by
  show w3.ownsRow _ _ _ _ l.length _;simpa using h6
 obtain⟨a3,c3,e⟩:=gf (zI h6' (by omega));have r:=zr h3 h7 (by omega) (by simp[Value.ownBlock]);refine⟨a3,c3,e,h6',r 0 _ rfl,r 1 _ rfl,?_,zK h5 h7 (by omega) (by simp[Value.ownBlock]),D.grown h7 (by omega) (fun k hk=>by simp[Value.ownBlock] at hk),by have:=h7.size;omega⟩;have:=(zK h4 h7 (by omega) (by simp[Value.ownBlock]) 1 (by omega)).2;rwa[Nat.zero_add] at this
theorem copyBook_any (next:Int)(v:Value)(l:List Od)(w:World)(hr:RdR Od.vs 6 w v l)(hs:SlOk v)(hn:l.length<=1000) :
  Calls Tryz.prog 103 #[.agg #[H next,v]] w fun e w'=>∃v',e=ym (.agg #[H next,v'])/\ORow w' w.heap.size v' l/\yn w w':=by
 have HR:=Z hr;obtain⟨i0,vk,uI,uG,uZ⟩:=info_parts Tryz.infoOrder;obtain⟨a,cap,rfl,xC,hc⟩:=hr;have xJ:=zf w (mq #[H next,.slice a l.length cap] 27);have ug:((w.alloc (mq #[H next,.slice a l.length cap] 27)).alloc (mq #[H 0,.slice none 0 0] 27)).heap.size=w.heap.size+2:=by rw[zf,xJ]
 have t1:=zW w [H next,.slice a l.length cap] 27;have r1:=zm w [H next,.slice a l.length cap] 27;have b1:Below (w.heap.size+1) (w.alloc (mq #[H next,.slice a l.length cap] 27)) ((w.alloc (mq #[H next,.slice a l.length cap] 27)).alloc (mq #[H 0,.slice none 0 0] 27)):=(Below.refl _ _).alloc (by rw[xJ];omega) _;have t2:=zW (w.alloc (mq #[H next,.slice a l.length cap] 27)) [H 0,.slice none 0 0] 27;rw[xJ] at t2;have HX:Hid (_/\_/\_):=⟨zc r1 b1 (by omega),zl t1 b1 (by omega),t2⟩;have ud:Hid (yn w ((w.alloc (mq #[H next,.slice a l.length cap] 27)).alloc (mq #[H 0,.slice none 0 0] 27))):=(mn _ _).alloc (by rw[xJ];omega) _;have qf:=Z ug;clear hc t1 r1 b1 t2 xJ ug;go_enter Tryz.func103,Tryz.ntmps103;rcases hs with hs|⟨ad,nn,cc,hs⟩
 ·simp only[Value.slice.injEq] at hs;obtain⟨rfl,jN,rfl⟩:=hs;obtain rfl:=List.length_eq_zero_iff.1 jN;go_wp2_with (at_builtin;go_must (refine wpList_append_own_none rfl _ _ 25 rfl (w.heap.size+2) 65 i0 6 Tryz.underlying25 vk (.slice none 0 0) 0 [] rfl (World.ownsRow_nil _ _ _ _) rfl ?_));go_returns;refine⟨_,rfl,World.ownsRow_nil _ _ _ _,?_⟩;go_grown
 ·simp only[Value.slice.injEq] at hs;obtain⟨rfl,rfl,rfl⟩:=hs;have qA:Hid (∀j u,(l.flatMap Od.vs)[j]? = some u->World.cell? (((w.alloc (mq #[H next,.slice (some ad) l.length cap] 27)).alloc (mq #[H 0,.slice none 0 0] 27))) (ad.add j)=some u):=rd_src (zi (U HR) (U ud) ya);go_wp2_with (at_builtin;go_must (refine wpList_append_own _ rfl _ _ 25 rfl (w.heap.size+2) 65 i0 _ 6 56 Tryz.underlying25 vk uI uG uZ rfl (by decide) (.slice none 0 0) 0 [] rfl (World.ownsRow_nil _ _ _ _) ad l.length cap (l.flatMap Od.vs) rfl (by rw[zY Od.len]) (U qA) (fM l) (by unfold maxLen;omega) (by omega) (by rw[U qf];omega) ?_);intro v3 w3 hown3 uM _;obtain⟨a3,c3,rfl,dM,c0,c1,f1,ht3,xL,oK⟩:=copy_mid rfl (U ud) (U qf) (U HX).1 (U HX).2.1 (U HX).2.2 hn hown3 uM;have ka:=Z dM;have kw:=Z ht3;have xI:=Z xL;obtain⟨v0,z0,q0⟩:=zJ ht3 0 (by omega);obtain⟨v1,z1,q1⟩:=zJ ht3 1 (by omega);clear dM ht3 xL hown3 uM)
  have z0:w3.cell? (J (w.heap.size+1) 0)=some v0:=z0;have z1:w3.cell? (J (w.heap.size+1) 1)=some v1:=by rw[Nat.zero_add] at z1;exact z1
  have q0:w3.frozen? (J (w.heap.size+1) 0)=false:=q0;have q1:w3.frozen? (J (w.heap.size+1) 1)=false:=by rw[Nat.zero_add] at q1;exact q1
  have qX:=Z (yY (w3.setCell (yq w 1) (.slice a3 l.length c3)) (w.heap.size+1) 0 [H next,.slice a3 l.length c3] (fun j hj=>(lg (U kw)) j hj));have HOX:=Z (fQ (fQ (fQ (U ka) (b:=w.heap.size) (by omega) 1 (.slice a3 l.length c3)) (b:=w.heap.size+1) (by omega) 0 (H next)) (b:=w.heap.size+1) (by omega) 1 (.slice a3 l.length c3));have qk:=Z ((((U xI).setCell (p:=(yq w 1)) ya (.slice a3 l.length c3)).setCell (p:=(J (w.heap.size+1) 0)) (by simp) (H next)).setCell (p:=(J (w.heap.size+1) 1)) (by simp) (.slice a3 l.length c3));go_wp2_with fail;have qX:Hid (World.rangeAt (((w3.setCell (yq w 1) (.slice a3 l.length c3)).setCell (J (w.heap.size+1) 0) (H next)).setCell (J (w.heap.size+1) 1) (.slice a3 l.length c3)) (w.heap.size+1) 0 [H next,.slice a3 l.length c3]):=U qX;generalize (((w3.setCell (yq w 1) (.slice a3 l.length c3)).setCell (J (w.heap.size+1) 0) (H next)).setCell (J (w.heap.size+1) 1) (.slice a3 l.length c3))=WE at qX HOX qk |-;have d0:WE.cell? (J (w.heap.size+1) 0)=some (H next):=U qX 0 _ rfl;have d1:WE.cell? (J (w.heap.size+1) 1)=some (.slice a3 l.length c3):=U qX 1 _ rfl
  try simp only[Exit.inBlock,Exit.then]
  refine bodyPost_ret (by simp[results,Tryz.results103,go_sem,d0,d1];try rfl) rfl ?_;exact⟨_,rfl,zU (U HOX) (by omega),U qk⟩
theorem bitsS_any (x:Nat)(w:World) :
  Calls Tryz.prog 159 #[yj x] w fun e w'=>e=ym (.int .u64 (fbit x))/\w'=w:=by
 have E:=fbits;cases h:nanB x with
 | true =>
  have HF:=Z (show fbit x=9221120237041090560 from if_pos h);have h':(FloatKind.f64.format.order x x != some Ordering.eq)=true:=h;clear h;go_enter Tryz.func159,Tryz.ntmps159;go_wp2;go_ret;exact⟨zB (by rw[U HF];rfl),rfl⟩
 | false =>
  have HF:=Z (show fbit x=x from if_neg (by rw[h];decide));have h':(FloatKind.f64.format.order x x != some Ordering.eq)=false:=h;clear h;go_enter Tryz.func159,Tryz.ntmps159;go_wp2;go_ret;exact⟨zB (by rw[U HF]),rfl⟩
theorem lY {P:Program}{w:World}{ops:Array Oper}{rest:List Oper}{o:Oper}{a:Act}{ho:Exit->Act->World->Prop}(bd:o.guard=none)(s x:Operand)(t:TypeId)
  (Q:o.op = .call { callee:=.builtin .append,args:=#[s,x],argTypes:=#[t,t] })
  (e:TypeId) (i:TypeInfo) (size:Nat) (ht:P.underlying t=some (.slice e)) (hi:P.info? e=some i) (kA:i.size=size)
  (g jA bF:Nat) (xA:Array Value) (X:w.heap[g]? = some (.cells xA e (0,0))) (hs:a.eval s = .slice (some (J g 0)) jA bF)
  (ad:Addr) (m c:Nat) (news:List Value) (hx:a.eval x = .slice (some ad) m c) (hl:news.length=m*size) (hnews:∀j u,news[j]? = some u->w.cell? (ad.add j)=some u) (D:∀u∈news,u.oneCell'=true)
  (bA:jA+m<=bF) (qV:jA*size+news.length<=xA.size)
  (h:wpList P ops ho rest (a.put o.dst (.slice (some (J g 0)) (jA+m) bF)) (w.setRow g (xA.toList.take (jA*size)++news++xA.toList.drop (jA*size+news.length)).toArray)):wpList P ops ho (o::rest) a w:=by
 subst kA;refine wpList_plain bd fun mR hK=>?_;have hrun:=run_append_room (P:=P) w t o.type e i ht hi g jA bF xA X ad m c news hl hnews D bA qV;unfold Oper.wp execOp;simp only[Q,resolve,invoke,builtin,Sem.run_bind,Sem.run_pure,Result.andThen_ok,List.map_toArray,List.map_cons,List.map_nil,hs,hx,hrun];exact hK _ _ h
theorem clear_row {P:Program}(w:World)(T ty e:TypeId)(i:TypeInfo)(z:Value)(ht:P.underlying T=some (.slice e))(hi:P.info? e=some i)(hz:i.zero=some z)(g o c:Nat)(xA:Array Value)(X:w.heap[g]? = some (.cells xA e (0,0)))
  (qV:o+z.cells.toList.length<=xA.size) (D:∀v∈z.cells.toList,v.oneCell'=true) :
  (Builtin.clear_ #[T] ty #[.slice (some (J g o)) 1 c]).run P w = .ok (.tuple #[]) (w.setRow g (xA.toList.take o++z.cells.toList++xA.toList.drop (o+z.cells.toList.length)).toArray):=by
 have qK:=run_storeCells_at P g o e z.cells.toList 0 xA w X (by simpa using qV) D;simp only[Nat.add_zero] at qK
 have hzc:(Builtin.zeroCells z.cells 1).toList=z.cells.toList:=by
  refine List.ext_getElem (by simp[Builtin.zeroCells]) fun j D Y=>?_;have hj:j<z.cells.size:=by simpa using Y
  simp[Builtin.zeroCells,Nat.mod_eq_of_lt hj,hj]
 simp[Builtin.clear_,run_underlying ht,zeroValue,typeInfo,hi,hz,hzc,qK]
abbrev zOdL:List Value:=(yw 0 0 0 0 0 ⟨#[]⟩)
theorem row_gone {xA:Array Value}{l:List Od}{i m cap:Nat}{zs:List Value}(hl:l.length=i+1+m)(hc:l.length<=cap)(hs:xA.size=cap*6)(ht:xA.toList.take (l.length*6)=l.flatMap Od.vs)(hz:zs.length=6) :
  (((xA.toList.take (i*6)++(l.drop (i+1)).flatMap Od.vs++xA.toList.drop (i*6+m*6)).take ((i+m)*6)++zs++(xA.toList.take (i*6)++(l.drop (i+1)).flatMap Od.vs++xA.toList.drop (i*6+m*6)).drop ((i+m)*6+zs.length)).take ((i+m)*6)=(l.take i++l.drop (i+1)).flatMap Od.vs) /\
  (xA.toList.take (i*6)++(l.drop (i+1)).flatMap Od.vs++xA.toList.drop (i*6+m*6)).length=cap*6:=by
 have xn:xA.toList.length=cap*6:=by simpa using hs
 have dJ:((l.drop (i+1)).flatMap Od.vs).length=m*6:=by rw[zY Od.len,List.length_drop];congr 1;omega
 have hti:xA.toList.take (i*6)=(l.take i).flatMap Od.vs:=by
  have h:=congrArg (List.take (i*6)) ht;rw[List.take_take,show min (i*6) (l.length*6)=i*6 by omega] at h;rw[h]
  conv=>lhs;rw[<- List.take_append_drop i l,List.flatMap_append]
  rw[List.take_append_of_le_length (by rw[zY Od.len,List.length_take];omega),xa (by rw[zY Od.len,List.length_take];omega)]
 have xC:(xA.toList.take (i*6)++(l.drop (i+1)).flatMap Od.vs).length=(i+m)*6:=by
  rw[yQ,dJ,List.length_take,xn];omega
 refine⟨?_,?_⟩
 ·rw[List.append_assoc ((List.take _ _)),List.take_append_of_le_length (by rw[List.length_take,yQ,xC,List.length_drop,xn];omega),List.take_take,Nat.min_self,List.take_append_of_le_length (by rw[xC];omega),xa (by rw[xC];omega),hti,List.flatMap_append]
 ·rw[yQ,xC,List.length_drop,xn];omega
theorem delete_any (g i m cap B:Nat)(xA:Array Value)(l:List Od)(w:World)(hl:l.length=i+1+m)(hn:l.length<=1000)(X:w.heap[g]? = some (.cells xA 65 (0,0)))(ur:l.length<=cap)(hmx:cap<=maxLen)(km:xA.size=cap*6)(qq:xA.toList.take (l.length*6)=l.flatMap Od.vs)(hB:B<=g) :
  Calls Tryz.prog 189 #[.slice (some (J g 0)) (i+1+m) cap,H i,H ((i:Int)+1)] w fun e w'=>e=ym (.slice (some (J g 0)) (i+m) cap)/\ORow w' B (.slice (some (J g 0)) (i+m) cap) (l.take i++l.drop (i+1))/\w.grownBy w' (some g):=by
 obtain⟨i0,vk,uI,uG,uZ⟩:=info_parts Tryz.infoOrder;have HG:=Z X
 have HRC:Hid (∀j c,l[j]? = some c->w.drew.rangeAt g (0+j*6) c.vs):=by
  have Q:ORow w B (.slice (some (J g 0)) l.length cap) l:=⟨by rw[zY Od.len],.inr ⟨g,cap,xA,rfl,hB,X,ur,hmx,km,qq⟩⟩;obtain⟨a',c',e,_,h⟩:=zI Q (by omega);intro j c hj;obtain⟨b',off',e2,_,h⟩:=h (by intro h;rw[h] at hj;simp at hj);rw[e2] at e;simp only[Value.slice.injEq,Option.some.injEq,Addr.mk.injEq,and_true,true_and] at e;obtain⟨⟨rfl,rfl⟩,-⟩:=e;exact h j c hj
 have uQ:=Z qq;have HSZ:=Z km;have HL:=Z hl;have D:(i:Int)+1<=(i:Int)+1+m:=by omega
 have Y:(i:Int)+1+m<=cap:=by omega
 have h3:(0:Int)<=i:=by omega
 have h4:(i:Int)<=(i:Int)+1:=by omega
 have h5:(0:Int)<=(i:Int)+1:=by omega
 have h6:(i:Int)<=cap:=by omega
 have b1:((i:Int)==(i:Int)+1)=false:=by rw[xe];omega
 clear X qq km hl;go_enter Tryz.func189,Tryz.ntmps189;go_wp2_with fail;refine zD 6 (by kernel_rfl) (by kernel_rfl) ?_;simp only[yU,List.take_zero,yV,List.drop_zero]
 by_cases hcc:cap=i+1
 ·have hm0:m=0:=by have:=U HL;omega
  subst hm0;subst hcc
  repeat still_step
  refine wpStill_nil ?_;refine lY rfl (.tmp 22) (.tmp 25) 25 rfl 65 i0 6 Tryz.underlying25 vk uG g i (i+1) xA (U HG) rfl (J g 0) 0 0 ((l.drop (i+1)).flatMap Od.vs) rfl (by rw[zY Od.len,List.length_drop];congr 1;have:=U HL;omega) (by rw[xb (by have:=U HL;omega)];simp) (fM _) (by omega) (by rw[zY Od.len,List.length_drop,U HSZ];have:=U HL;omega) ?_;have dJ:((l.drop (i+1)).flatMap Od.vs).length=0*6:=by rw[zY Od.len,List.length_drop];congr 1;have:=U HL;omega
  rw[dJ];obtain⟨bh,jp⟩:=row_gone (zs:=zOdL) (U HL) ur (U HSZ) (U uQ) rfl;have aO:=Z bh;generalize hC1:(xA.toList.take (i*6)++(l.drop (i+1)).flatMap Od.vs++xA.toList.drop (i*6+0*6))=C1 at aO jp |-;have hx1:(w.drew.setRow g C1.toArray).heap[g]? = some (.cells C1.toArray 65 (0,0)):=setRow_heap w.drew g xA C1.toArray 65 (0,0) (U HG);have ch:Hid (w.grownBy (w.drew.setRow g C1.toArray) (some g)):=⟨rfl,rfl,rfl,by simp,fun k hk xr=>setRow_other w.drew g k C1.toArray (fun e=>xr (by rw[e]))⟩;have uV:=Z hx1;clear hx1 hC1 bh dJ;generalize w.drew.setRow g C1.toArray=X1 at uV ch |-
  have xn:∀(ty:TypeId) (c:Nat),(Builtin.clear_ #[25] ty #[.slice (some (J g (i*6))) 1 c]).run Tryz.prog X1 = .ok (.tuple #[]) (X1.setRow g (C1.take (i*6)++zOdL++C1.drop (i*6+6)).toArray):=fun ty c=>by
   have:=clear_row X1 25 ty 65 i0 _ Tryz.underlying25 vk uI g (i*6) c C1.toArray (U uV) (by show i*6+6<=C1.toArray.size;rw[List.size_toArray,jp];omega) (by simp[Value.cells,Value.oneCell']);simpa[Value.cells] using this
  have xG:=Z (setRow_heap X1 g C1.toArray (C1.take (i*6)++zOdL++C1.drop (i*6+6)).toArray 65 (0,0) (U uV));have uj:Hid (w.grownBy (X1.setRow g (C1.take (i*6)++zOdL++C1.drop (i*6+6)).toArray) (some g)):=(U ch).trans ⟨rfl,rfl,rfl,by simp,fun k hk xr=>setRow_other X1 g k _ (fun e=>xr (by rw[e]))⟩;generalize hC2:(C1.take (i*6)++zOdL++C1.drop (i*6+6)).toArray=C2 at xn xG uj;have dm:=Z hC2;have oh:=Z jp;clear hC2;have k1:¬ i+1=i:=by omega
  have k2:i+1-i=1:=by omega
  clear jp;go_wp2_with fail;go_ret;have pn:(l.take i++l.drop (i+1)).length=i+0:=by have:=U HL;simp;omega
  refine⟨rfl,⟨by rw[zY Od.len],.inr ⟨g,i+1,_,by rw[pn],hB,U xG,by rw[pn];omega,hmx,?_,?_⟩⟩,U uj⟩
  ·rw[<- U dm];simp[U oh];omega
  ·rw[pn,<- U dm];simpa using U aO
 ·repeat still_step
  refine wpStill_nil ?_;refine lY rfl (.tmp 22) (.tmp 25) 25 rfl 65 i0 6 Tryz.underlying25 vk uG g i cap xA (U HG) rfl (J g ((i+1)*6)) m (cap-(i+1)) ((l.drop (i+1)).flatMap Od.vs) rfl (by rw[zY Od.len,List.length_drop];congr 1;have:=U HL;omega) (by have h:=ie (W:=w.drew) (g:=g) (off:=0) (l:=l) (U HRC) (i+1) l.length;rw[xa (by rw[List.length_drop];omega),Nat.zero_add] at h;exact h) (fM _) (by omega) (by rw[zY Od.len,List.length_drop,U HSZ];have:=U HL;omega) ?_
  have dJ:((l.drop (i+1)).flatMap Od.vs).length=m*6:=by rw[zY Od.len,List.length_drop];congr 1;have:=U HL;omega
  rw[dJ];obtain⟨bh,jp⟩:=row_gone (zs:=zOdL) (U HL) ur (U HSZ) (U uQ) rfl;have aO:=Z bh;generalize hC1:(xA.toList.take (i*6)++(l.drop (i+1)).flatMap Od.vs++xA.toList.drop (i*6+m*6))=C1 at aO jp |-;have hx1:(w.drew.setRow g C1.toArray).heap[g]? = some (.cells C1.toArray 65 (0,0)):=setRow_heap w.drew g xA C1.toArray 65 (0,0) (U HG);have ch:Hid (w.grownBy (w.drew.setRow g C1.toArray) (some g)):=⟨rfl,rfl,rfl,by simp,fun k hk xr=>setRow_other w.drew g k C1.toArray (fun e=>xr (by rw[e]))⟩;have uV:=Z hx1;clear hx1 hC1 bh dJ;generalize w.drew.setRow g C1.toArray=X1 at uV ch |-
  have xn:∀(ty:TypeId) (c:Nat),(Builtin.clear_ #[25] ty #[.slice (some (J g ((i+m)*6))) 1 c]).run Tryz.prog X1 = .ok (.tuple #[]) (X1.setRow g (C1.take ((i+m)*6)++zOdL++C1.drop ((i+m)*6+6)).toArray):=fun ty c=>by
   have:=clear_row X1 25 ty 65 i0 _ Tryz.underlying25 vk uI g ((i+m)*6) c C1.toArray (U uV) (by show(i+m)*6+6<=C1.toArray.size;rw[List.size_toArray,jp];omega) (by simp[Value.cells,Value.oneCell']);simpa[Value.cells] using this
  have xG:=Z (setRow_heap X1 g C1.toArray (C1.take ((i+m)*6)++zOdL++C1.drop ((i+m)*6+6)).toArray 65 (0,0) (U uV));have uj:Hid (w.grownBy (X1.setRow g (C1.take ((i+m)*6)++zOdL++C1.drop ((i+m)*6+6)).toArray) (some g)):=(U ch).trans ⟨rfl,rfl,rfl,by simp,fun k hk xr=>setRow_other X1 g k _ (fun e=>xr (by rw[e]))⟩;generalize hC2:(C1.take ((i+m)*6)++zOdL++C1.drop ((i+m)*6+6)).toArray=C2 at xn xG uj;have dm:=Z hC2;have oh:=Z jp;clear hC2;have k1:¬ cap=i+m:=by have:=U HL;omega
  have k2:i+1+m-(i+m)=1:=by omega
  have k3:(i:Int)+m<=(i:Int)+1+m:=by omega
  have k4:(0:Int)<=(i:Int)+m:=by omega
  clear jp;go_wp2_with fail;go_ret;have pn:(l.take i++l.drop (i+1)).length=i+m:=by have:=U HL;simp;omega
  refine⟨rfl,⟨by rw[zY Od.len],.inr ⟨g,cap,_,by rw[pn],hB,U xG,by rw[pn];omega,hmx,?_,?_⟩⟩,U uj⟩
  ·rw[<- U dm];simp[U oh];omega
  ·rw[pn,<- U dm];simpa using U aO
def dR (l:List Od)(k:Nat)(c:Od)(qty:Int):List Od:=if c.left=qty then l.take k++l.drop (k+1) else l.set k { c with left:=c.left-qty }
structure TookAt (p o:Nat) (G:Option Nat) (w w':World):Prop where
 os:w'.os=w.os
 tape:w'.tape=w.tape
 output:w'.output=w.output
 size:w.heap.size<=w'.heap.size
 block:∀k,k<w.heap.size->k≠p->some k≠G->w'.heap[k]? = w.heap[k]?
 cell:∀j,j≠o+1->w'.cell? ⟨p,j,none⟩=w.cell? ⟨p,j,none⟩
 frozen:∀j,w'.frozen? ⟨p,j,none⟩=w.frozen? ⟨p,j,none⟩
 kind:∀cur t x,w.heap[p]? = some (.cells cur t x)->∃cur',w'.heap[p]? = some (.cells cur' t x)
theorem fF (w:World)(p o:Nat)(u:Value){xA:Array Value}{t:TypeId}{x:Nat × Nat}(h:w.heap[p]? = some (.cells xA t x)):∃cur',(w.setCell (J p o) u).heap[p]? = some (.cells cur' t x):=by
 simp[World.setCell,Array.getElem?_modify,h]
theorem ek {W:World}{B e sz n:Nat}{v:Value}{xs:List Value}(h:W.ownsRow B e sz v n xs){b:Nat}(E:some b≠v.ownBlock)(o:Nat)(u:Value):(W.setCell (J b o) u).ownsRow B e sz v n xs:=
 h.kept (row:=some b) ⟨rfl,rfl,rfl,by simp[World.setCell],fun k _ hk=>yT _ _ _ _ (fun e=>hk (by rw[e]))⟩ (.inr (Ne.symm E))
theorem gH {p o:Nat}{G:Option Nat}{w w':World}(h:w.grownBy w' G)(hp:p<w.heap.size)(xr:some p≠G):TookAt p o G w w':=
 ⟨h.os,h.tape,h.output,h.size,fun k hk _ hG=>h.block k hk hG,fun j _=>yR (a:=(J p j)) (h.block p hp xr),fun j=>World.frozen?_of_block (a:=(J p j)) (h.block p hp xr),fun xA t x hh=>⟨xA,(h.block p hp xr).trans hh⟩⟩
theorem ia {p o:Nat}{G:Option Nat}{w w1 w2:World}(D:TookAt p o G w w1)(Y:TookAt p o G w1 w2):TookAt p o G w w2:=
 ⟨Y.os.trans D.os,Y.tape.trans D.tape,Y.output.trans D.output,yO D.size Y.size,fun k hk hp hG=>(Y.block k (yK hk D.size) hp hG).trans (D.block k hk hp hG),fun j hj=>(Y.cell j hj).trans (D.cell j hj),fun j=>(Y.frozen j).trans (D.frozen j),fun xA t x hh=>by obtain⟨c1,h3⟩:=D.kind xA t x hh;exact Y.kind c1 t x h3⟩
theorem took_set {p o:Nat}{G:Option Nat}(w:World)(u:Value):TookAt p o G w (w.setCell (J p (o+1)) u):=
 ⟨rfl,rfl,rfl,by simp[World.setCell],fun k _ hp _=>yT _ _ _ _ hp,fun j hj=>yM _ _ _ _ (ei (fun e=>hj e.symm)),fun j=>World.frozen?_setCell _ _ _ _,fun xA t x hh=>fF w p (o+1) u hh⟩
theorem zt {W W':World}{B:Nat}{v:Value}{l:List Od}(h:ORow W B v l)(E:yn W W'):ORow W' B v l:=
 World.ownsRow.kept h (row:=none) (eF E ya) (by cases v.ownBlock <;> simp)
theorem lo {W:World}{B g n cap k:Nat}{l:List Od}{c:Od}(h:ORow W B (.slice (some (J g 0)) n cap) l)(hn:l.length=n)(hk:l[k]? = some c)(x:Int) :
  ORow (W.setCell (J g (k*6+3)) (H x)) B (.slice (some (J g 0)) n cap) (l.set k { c with left:=x })/\W.grownBy (W.setCell (J g (k*6+3)) (H x)) (some g):=by
 subst hn;have s:=World.ownsRow.stored h (k*6+3) (H x);refine⟨?_,s.2⟩;have e:=flat_set Od.len l k 3 c { c with left:=x } (H x) hk (by omega) rfl;show World.ownsRow _ _ _ _ _ (l.set k _).length _;rw[List.length_set,<- e];exact s.1
theorem lx (p o B:Nat)(next id qty:Int)(vq:Value)(l:List Od)(k:Nat)(c:Od)(w:World)(c0:w.cell? (J p o)=some (H next))(c1:w.cell? (J p (o+1))=some vq)(f1:w.frozen? (J p (o+1))=false)
  (Q:ORow w B vq l) (hp:some p≠vq.ownBlock) (cV:p<w.heap.size) (hB:B<=w.heap.size) (hn:l.length<=1000) (hk:plc l id=k) (hc:l[k]? = some c) (bx:0<=qty) (pE:qty<=c.left) (xn:c.left<=1000000) :
  Calls Tryz.prog 154 #[I p o,H id,H qty] w fun e w'=>∃uB,e=ym (.tuple #[])/\w'.cell? (J p (o+1))=some uB/\ORow w' B uB (dR l k c qty)/\TookAt p o vq.ownBlock w w':=by
 have xr:l ≠ []:=by rintro rfl;simp at hc
 have oE:=(yH.1 hc).1;have HO:=Z Q;obtain⟨g,cap,rfl,ur,hBg,hgw⟩:=fL Q xr;have HK:=Z hk;have HC:=Z hc;clear Q hk hc xr;go_enter Tryz.func154,Tryz.ntmps154;go_wp2_with fail;refine(iT next _ l id w (zI (U HO) (by omega))).mono ?_;rintro e w1 ⟨rfl,uw⟩;rw[U HK];have uf:=Z uw;have jI:=Z (zt (U HO) uw);have d1:w1.cell? (J p (o+1))=some (.slice (some (J g 0)) l.length cap):=(uw.cell (p:=(J p (o+1))) cV).trans c1;have e1:w1.frozen? (J p (o+1))=false:=(uw.frozen (p:=(J p (o+1))) cV).trans f1;have hsz1:=uw.size;obtain⟨a',cp',ee,_,cK⟩:=zI (U jI) (by omega);obtain⟨b',off',e2,_,cK⟩:=cK (by intro h;rw[h] at oE;simp at oE);rw[e2] at ee;simp only[Value.slice.injEq,Option.some.injEq,Addr.mk.injEq,and_true,true_and] at ee;obtain⟨⟨rfl,rfl⟩,-⟩:=ee;have hcc:=cK k c (U HC);rw[Nat.zero_add] at hcc;obtain⟨-,-,-,y3,-⟩:=zF hcc;have fz:=World.ownsRow.frozenAt (U jI) (k*6+3);have aC:(k:Int)<l.length:=by omega
 have oT:(0:Int)<=k:=by omega
 have pq:IntKind.i64.wrap (c.left-qty)=c.left-qty:=by rw[IntKind.wrap_i64];omega
 have hpg:p≠g:=by simpa[Value.ownBlock] using hp
 have HS:=Z (lo (U jI) rfl (U HC) (c.left-qty));have d2:(w1.setCell (J g (k*6+3)) (H (c.left-qty))).cell? (J p (o+1))=some (.slice (some (J g 0)) l.length cap):=(yM _ _ _ _ (fun e=>hpg (by have:=congrArg Addr.block e;simpa using this.symm))).trans d1;have d3:(w1.setCell (J g (k*6+3)) (H (c.left-qty))).cell? (J g (k*6+3))=some (H (c.left-qty)):=yN _ _ _ y3;have d4:(w1.setCell (J g (k*6+3)) (H (c.left-qty))).frozen? (J p (o+1))=false:=(World.frozen?_setCell _ _ _ _).trans e1;clear uw hcc cK c0 c1 f1
 by_cases hz:c.left=qty
 ·have uI:c.left-qty=0:=by omega
  have HH:Hid (dR l k c qty=l.take k++l.drop (k+1)):=if_pos hz;obtain⟨m,hm⟩:∃m,l.length=k+1+m:=⟨l.length-(k+1),by omega⟩;have pn:(l.set k { c with left:=c.left-qty }).length=k+1+m:=by rw[List.length_set,hm]
  have hdel:(l.set k { c with left:=c.left-qty }).take k++(l.set k { c with left:=c.left-qty }).drop (k+1)=l.take k++l.drop (k+1):=by
   rw[List.take_set_of_le ya,List.drop_set_of_lt (by omega)]
  have HDEL:=Z hdel;have HM:=Z hm;have xD:(c.left-qty==0)=true:=by rw[beq_iff_eq];exact uI
  obtain⟨-,Y|⟨g',kG,xA,Y,h3,h4,h5,h6,h7,h8⟩⟩:=(U HS).1
  ·simp at Y
  simp only[Value.slice.injEq,Option.some.injEq,Addr.mk.injEq,and_true] at Y;obtain⟨rfl,h9,rfl⟩:=Y;have HDC:Hid (Calls Tryz.prog 189 #[.slice (some (J g 0)) (k+1+m) cap,H k,H ((k:Int)+1)] (w1.setCell (J g (k*6+3)) (H (c.left-qty))) _):=delete_any g k m cap B xA (l.set k { c with left:=c.left-qty }) _ pn (by rw[List.length_set];exact hn) h4 h5 h6 h7 h8 hBg;have uj:=Z (U HS).2;have qF:p<(w1.setCell (J g (k*6+3)) (H (c.left-qty))).heap.size:=by simp[World.setCell];omega
  clear hdel hz pn h3 h4 h5 h6 h7 h8 h9 ur uI;rw[hm] at d1 d2 aC |-;clear hm;go_wp2_with fail;refine(U HDC).mono ?_;rw[U HDEL];rintro e w3 ⟨rfl,dM,uM⟩;have s1:=uM.cell d2 (by simpa using hpg);have s2:w3.frozen? (J p (o+1))=false:=(World.frozen?_of_block (a:=(J p (o+1))) (uM.block p qF (by simpa using hpg))).trans d4;have ka:=Z dM;have vw:=Z uM;clear dM uM;go_wp2_with fail;go_end0;refine⟨_,rfl,yN _ _ _ s1,?_,?_⟩
  ·rw[U HH];exact ek (U ka) (by simpa[Value.ownBlock] using hpg) (o+1) _
  ·exact ia (ia (ia (gH (eF (U uf) ya) cV (by simpa[Value.ownBlock] using hpg)) (gH (U uj) (by omega) (by simpa[Value.ownBlock] using hpg))) (gH (U vw) qF (by simpa[Value.ownBlock] using hpg))) (took_set _ _)
 ·have uI:(c.left-qty==0)=false:=by rw[xe];omega
  have HH:Hid (dR l k c qty=l.set k { c with left:=c.left-qty }):=if_neg hz;go_wp2_with fail;go_end0;refine⟨_,rfl,d2,by rw[U HH];exact(U HS).1,?_⟩;exact ia (gH (eF (U uf) ya) cV (by simpa[Value.ownBlock] using hpg)) (gH (U HS).2 (by omega) (by simpa[Value.ownBlock] using hpg))
def trE (uC cF qty cG:Int):Ev:=⟨3,zCm,uC,cF,qty,cG,0⟩
abbrev ERow (W:World)(B:Nat)(v:Value)(l:List Ev):Prop:=W.ownsRow B 37 14 v l.length (l.flatMap Ev.vs)
theorem infoEv:(Tryz.prog.info? 37).map (fun i=>(i.zero,i.size,i.bytes))=some (some (.agg (yv 0 0 0 0 0 0 0 0 ⟨#[]⟩ 0 0 0 0 0).toArray),14,120):=by kernel_rfl
theorem one_ev (e:Ev):∀u∈e.vs,u.oneCell'=true:=by
 intro u hu;simp[Ev.vs] at hu;rcases hu with rfl|rfl|rfl|rfl|rfl|rfl|rfl|rfl|rfl|rfl|rfl|rfl|rfl|rfl <;> rfl
theorem ff {W W':World}{B:Nat}{v:Value}{l:List Ev}(h:ERow W B v l)(E:yn W W'):ERow W' B v l:=
 World.ownsRow.kept h (row:=none) (eF E ya) (by cases v.ownBlock <;> simp)
theorem gM {W:World}{B:Nat}{v:Value}{l:List Ev}(h:ERow W B v l){b:Nat}(E:b<B)(o:Nat)(u:Value):ERow (W.setCell (J b o) u) B v l:=
 ownsRow_setCell_below h (a:=(J b o)) E u
theorem row_sliceT {W:World}{B e sz n:Nat}{v:Value}{xs:List Value}(h:W.ownsRow B e sz v n xs)(hn:0<n):∃g c,v = .slice (some (J g 0)) n c:=by
 rcases h.2 with⟨_,h0⟩|⟨g,cap,_,D,_⟩
 ·omega
 ·exact⟨g,cap,D⟩
theorem cellsT (W:World)(e:Ev)(t:TypeId):∀j u,e.vs[j]? = some u->(W.alloc (Obj.cells e.vs.toArray t)).cell? (((yq W 0):Addr).add j)=some u:=fun j u h=>cellsQ W e.vs t j u h
def DT (mb fb B:Nat)(W0:World)(vt:Value)(ts:List Ev)(uC cF qty cG:Int)(p q:Prop)(V:World):Nat->Value->Prop
 | 0,v=>v=I mb 0
 | 1,v=>v=I mb 0
 | 2,v=>v=I mb 0
 | 3,v=>v=I mb 8
 | 4,v=>v=vt
 | 5,v=>v=I mb 0
 | 6,v=>v=I mb 0
 | 7,v=>v=I mb 2
 | 8,v=>v=I mb 2
 | 9,v=>v=H uC
 | 10,v=>v=I fb 0
 | 11,v=>v=H cF
 | 12,v=>v=H qty
 | 13,v=>v=I fb 2
 | 14,v=>v=H cG
 | 15,v=>v=evV (trE uC cF qty cG)
 | 16,v=>∃s,v = .slice (some (J s 0)) 1 1/\(¬ p->∀j u,(trE uC cF qty cG).vs[j]? = some u->V.cell? (((J s 0):Addr).add j)=some u)
 | 17,v=>∃a c,v = .slice a (ts.length+1) c/\p/\(¬ q->ERow V B v (ts ++ [trE uC cF qty cG])/\W0.grownBy V vt.ownBlock)/\(q->V.cell? (J mb 8)=some v/\ERow V B v (ts ++ [trE uC cF qty cG])/\TookAt mb 7 vt.ownBlock W0 V)
 | 18,v=>v=I mb 0
 | 19,v=>v=I mb 8
 | _,_=>True
section
variable {mb fb B:Nat} {W0 V V':World} {vt:Value} {ts:List Ev} {uC cF qty cG:Int} {p q:Prop}
theorem dt_alloc {o:Obj}(hp:¬ p):∀j v,DT mb fb B W0 vt ts uC cF qty cG p q V j v->DT mb fb B W0 vt ts uC cF qty cG p q (V.alloc o) j v:=by
 intro j v h
 match j with
 | 0|1|2|3|4|5|6|7|8|9|10|11|12|13|14|15|18|19=>exact h
 | 16 =>
  obtain⟨s,D,Y⟩:=h;exact⟨s,D,fun hp j u hu=>(yW _ _ _ (yL V _ (Y hp j u hu))).trans (Y hp j u hu)⟩
 | 17=>obtain⟨_,_,_,Y,_⟩:=h;exact absurd Y hp
 | j+20=>trivial
theorem dt_one:∀j v,j≠17->DT mb fb B W0 vt ts uC cF qty cG False False V j v->DT mb fb B W0 vt ts uC cF qty cG True False V' j v:=by
 intro j v hj h
 match j with
 | 0|1|2|3|4|5|6|7|8|9|10|11|12|13|14|15|18|19=>exact h
 | 16 =>
  obtain⟨s,D,Y⟩:=h;exact⟨s,D,fun hp=>absurd trivial hp⟩
 | 17=>exact absurd rfl hj
 | j+20=>trivial
theorem dt_two {v:Value}:∀j,j≠20->DT mb fb B W0 vt ts uC cF qty cG True False V j v->(j=17->DT mb fb B W0 vt ts uC cF qty cG True True V' 17 v)->DT mb fb B W0 vt ts uC cF qty cG True True V' j v:=by
 intro j hj h jC
 match j with
 | 0|1|2|3|4|5|6|7|8|9|10|11|12|13|14|15|18|19=>exact h
 | 16 =>
  obtain⟨s,D,Y⟩:=h;exact⟨s,D,fun hp=>absurd trivial hp⟩
 | 17=>exact jC rfl
 | j+20=>trivial
end
structure MatS (mb B:Nat) (W:World) (next:Int) (vq:Value) (l:List Od) (t:Od) (vt:Value) (ts:List Ev):Prop where
 cells:W.rangeAt mb 0 [.int .i64 next,vq,.int .i64 t.id,.int .i64 t.side,.int .i64 t.ticks,.int .i64 t.left,.int .i64 t.life,.string t.tag,vt]
 there:W.there mb 0 9
 orow:ORow W B vq l
 erow:ERow W B vt ts
 box:∃cur,W.heap[mb]? = some (.cells cur 259 (0,0))
 le:B<=W.heap.size
structure KeptBut (mb B:Nat) (w w':World):Prop where
 os:w'.os=w.os
 tape:w'.tape=w.tape
 output:w'.output=w.output
 size:w.heap.size<=w'.heap.size
 block:∀k,k<B->k≠mb->w'.heap[k]? = w.heap[k]?
theorem hJ {mb B:Nat}{w w1 w2:World}(D:KeptBut mb B w w1)(Y:KeptBut mb B w1 w2):KeptBut mb B w w2:=
 ⟨Y.os.trans D.os,Y.tape.trans D.tape,Y.output.trans D.output,yO D.size Y.size,fun k hk hm=>(Y.block k hk hm).trans (D.block k hk hm)⟩
theorem lG {mb B C:Nat}{w w1:World}(h:Below C w w1)(hC:B<=C):KeptBut mb B w w1:=
 ⟨h.os,h.tape,h.output,h.size,fun k hk _=>h.block k (by omega)⟩
theorem kept_took {mb B o:Nat}{G:Option Nat}{w w1:World}(h:TookAt mb o G w w1)(hB:B<=w.heap.size)(hG:∀g,G=some g->B<=g):KeptBut mb B w w1:=
 ⟨h.os,h.tape,h.output,h.size,fun k hk hm=>h.block k (by omega) hm (fun e=>by have:=hG k e.symm;omega)⟩
theorem kept_set {mb B:Nat}(w:World)(o:Nat)(u:Value):KeptBut mb B w (w.setCell (J mb o) u):=
 ⟨rfl,rfl,rfl,by simp[World.setCell],fun k _ hm=>yT _ _ _ _ hm⟩
theorem kept_drew {mb B:Nat}{w w1:World}(h:KeptBut mb B w w1):KeptBut mb B w w1.drew:=⟨h.os,h.tape,h.output,h.size,h.block⟩
theorem row_took {p o B e sz n:Nat}{G:Option Nat}{v:Value}{xs:List Value}{w w':World}(h:w.ownsRow B e sz v n xs)(ht:TookAt p o G w w')(hp:some p≠v.ownBlock)(xr:v.ownBlock=none\/v.ownBlock≠G):w'.ownsRow B e sz v n xs:=by
 refine⟨h.1,?_⟩;rcases h.2 with hn|⟨g,cap,xA,rfl,E,ab,rest⟩
 ·exact .inl hn
 ·refine .inr ⟨g,cap,xA,rfl,E,?_,rest⟩;rw[ht.block g (yZ.1 ab).1 (by simpa[Value.ownBlock] using Ne.symm hp) (by simpa[Value.ownBlock] using xr)];exact ab
theorem fC {B e sz n b:Nat}{T:TypeId}{v:Value}{xs:List Value}{w:World}(h:w.ownsRow B e sz v n xs)(E:∃xA,w.heap[b]? = some (.cells xA T (0,0)))(xr:T≠e):some b≠v.ownBlock:=by
 obtain⟨cb,E⟩:=E;rcases h.2 with⟨rfl,_⟩|⟨g,cap,xA,rfl,_,ab,rest⟩
 ·simp[Value.ownBlock]
 ·intro e0;simp only[Value.ownBlock,Option.some.injEq] at e0;subst e0;rw[E] at ab;simp only[Option.some.injEq,Obj.cells.injEq] at ab;exact xr ab.2.1
theorem MatS.nq {mb B:Nat}{W:World}{next:Int}{vq:Value}{l:List Od}{t:Od}{vt:Value}{ts:List Ev}(h:MatS mb B W next vq l t vt ts):some mb≠vq.ownBlock:=fC h.orow h.box (by decide)
theorem MatS.nt {mb B:Nat}{W:World}{next:Int}{vq:Value}{l:List Od}{t:Od}{vt:Value}{ts:List Ev}(h:MatS mb B W next vq l t vt ts):some mb≠vt.ownBlock:=fC h.erow h.box (by decide)
theorem MatS.lt {mb B:Nat}{W:World}{next:Int}{vq:Value}{l:List Od}{t:Od}{vt:Value}{ts:List Ev}(h:MatS mb B W next vq l t vt ts):mb<W.heap.size:=by
 obtain⟨xA,h⟩:=h.box;exact(yZ.1 h).1
theorem gu {B B' e e' sz sz' n n':Nat}{v v':Value}{xs xs':List Value}{w:World}(h:w.ownsRow B e sz v n xs)(h':w.ownsRow B' e' sz' v' n' xs')(xr:e≠e'):v.ownBlock=none\/v.ownBlock≠v'.ownBlock:=by
 rcases h.2 with⟨rfl,_⟩|⟨g,cap,xA,rfl,E,ab,rest⟩
 ·exact .inl rfl
 ·refine .inr ?_;rcases h'.2 with⟨rfl,_⟩|⟨g',kG,cur',rfl,hb',hgg',rest'⟩
  ·simp[Value.ownBlock]
  ·intro e0;simp only[Value.ownBlock,Option.some.injEq] at e0;subst e0;rw[ab] at hgg';simp only[Option.some.injEq,Obj.cells.injEq] at hgg';exact xr hgg'.2.1
theorem trade_any (mb B:Nat)(next:Int)(vq:Value)(l:List Od)(t:Od)(vt:Value)(ts:List Ev)(o:Od)(k:Nat)(w:World)(h:MatS mb B w next vq l t vt ts)
  (hk:plc l o.id=k) (hc:l[k]? = some o) (hn:l.length<=1000) (hts:ts.length<=1000) (ht0:0<=t.left) (ht1:t.left<=1000000) (ho0:0<=o.left) (oF:o.left<=1000000) (qty:Int) (hq:qty=min t.left o.left) :
  Calls Tryz.prog 213 #[I mb 0,.agg (yw o.id o.side o.ticks o.left o.life o.tag).toArray] w fun e w' =>
   ∃uB vt',e=ym (.tuple #[])/\MatS mb B w' next uB (dR l k o qty) { t with left:=t.left-qty } vt' (ts ++ [trE t.id o.id qty o.ticks])/\KeptBut mb B w w':=by
 obtain⟨uU,vA,xz,xN,vz,qO⟩:=o;simp only at *;have HM:=Z h;have hmw:=h.lt;have jl:=h.le;have hnq:=h.nq;have hnt:=h.nt;have uf:Hid (yn w (w.alloc (mq (yw uU vA xz xN vz qO).toArray 65))):=mn _ _;have oH:=zc h.cells (U uf) hmw;have pA:=zm w (yw uU vA xz xN vz qO) 65;have y5:=oH 5 _ rfl;have z3:=pA 3 _ rfl;simp only[Nat.zero_add] at y5 z3;have qe:=Z oH;have bZ:=Z pA;have HK:=Z hk;have HC:=Z hc;have HQ:=Z hq;clear h oH pA hk hc hq;go_enter Tryz.func213,Tryz.ntmps213;go_wp2_with fail;have bZ:Hid (World.rangeAt (w.alloc (mq (yw uU vA xz xN vz qO).toArray 65)) w.heap.size 0 (yw uU vA xz xN vz qO)):=U bZ;have z3:World.cell? (w.alloc (mq (yw uU vA xz xN vz qO).toArray 65)) (yq w 3)=some (H xN):=z3;generalize (w.alloc (mq (yw uU vA xz xN vz qO).toArray 65))=W1 at uf qe bZ y5 z3 |-
 have hmin:∀W,(Builtin.min_ #[3,3] 3 #[H t.left,H xN]).run Tryz.prog W = .ok (H qty) W:=fun W=>by
  rw[U HQ]
  by_cases qS:t.left<=xN
  ·rw[Int.min_eq_left qS];go_simp;omega
  ·rw[Int.min_eq_right (by omega)];go_simp
 go_quiet (fail);go_wp2_with fail;have hB0:Hid (yn w (W1.drewN nq)):=zR (U uf) nq;have hM:Hid ((W1.drewN nq).rangeAt mb 0 [H next,vq,H t.id,H t.side,H t.ticks,H t.left,H t.life,yk t.tag,vt]):=U qe;have hFF:Hid ((W1.drewN nq).rangeAt w.heap.size 0 (yw uU vA xz xN vz qO)):=U bZ;have hT9:Hid ((W1.drewN nq).there mb 0 9):=zl (U HM).there (U hB0) hmw;have HROW:Hid (ERow (W1.drewN nq) B vt ts):=ff (U HM).erow (U hB0);have qk:Hid (∃xA,(W1.drewN nq).heap[mb]? = some (.cells xA 259 (0,0))):=by obtain⟨xA,hc⟩:=(U HM).box;exact⟨xA,((U hB0).block mb hmw).trans hc⟩
 have HORO:Hid (ORow (W1.drewN nq) B vq l):=zt (U HM).orow (U hB0);have xJ:w.heap.size<(W1.drewN nq).heap.size:=yL (W1.drewN nq) (yq w (0+0)) (U hFF 0 _ rfl);clear y5 z3 hmin qe bZ uf;generalize W1.drewN nq=W0 at hB0 hM hFF hT9 HROW HORO qk xJ |-;have HM8:Hid (W0.cell? (J mb 8)=some vt):=U hM 8 _ rfl;have xV:Hid (W0.cell? (J mb 2)=some (H t.id)):=U hM 2 _ rfl;have HF0:Hid (W0.cell? (yq w 0)=some (H uU)):=U hFF 0 _ rfl;have ql:Hid (W0.cell? (yq w 2)=some (H xz)):=U hFF 2 _ rfl;have HF8:Hid (W0.frozen? (J mb 8)=false):=by have:=(U hT9 8 (by omega)).2;rwa[Nat.zero_add] at this
 have hmw0:mb<W0.heap.size:=by omega
 have hBW0:B<=W0.heap.size:=by omega
 obtain⟨i0,vk,uI,uG,uZ⟩:=info_parts infoEv;refine zu (RT (fun V=>yn W0 V) (fun f=>{ tmps:=#[I mb 0,.agg (yw uU vA xz xN vz qO).toArray,M,yp w 0,H qty,I mb 0,I mb 0,I mb 2,I mb 5,H t.left,yp w 3,H xN,H qty,f 0,f 1,f 2,f 3,f 4,f 5,f 6,f 7,f 8,f 9,f 10,f 11,f 12,f 13,f 14,f 15,f 16,f 17,f 18,f 19,M,M,M,M,M,M,M,M,M,M,M,M,M,M,M,M,M],defers:=[] }) 17 20 (DT mb w.heap.size B W0 vt ts t.id uU qty xz)) (by kernel_rfl) ?_ ?_ ?_
 ·exact⟨fun _=>M,rfl,fun _=>⟨rfl,rfl,rfl,Nat.le_refl _,fun _ _=>rfl⟩,fun j hj=>by rw[yJ] at hj;split at hj <;> simp at hj⟩
 ·rintro x zb V ⟨f,rfl,-,hD⟩ hx xS;have xq:=eE xS hx (acyc _ (by kernel_rfl));have bE:x[17]? = some true:=xq 17 (by simp);have k20:x[20]? = some true:=xq 20 (by simp);obtain⟨va,vc,-,-,-,qv⟩:=hD 17 bE;obtain⟨q1,q2,q3⟩:=qv k20;have aN:Hid (_/\_/\_):=⟨q1,q2,q3⟩;clear hD xq xS hx bE k20 qv q1 q2 q3;dsimp only;generalize f 17=v17 at aN |-;generalize f 0=a0,f 1=a1,f 2=a2,f 3=a3,f 4=a4,f 5=a5,f 6=a6,f 7=a7,f 8=a8,f 9=a9,f 10=a10,f 11=a11,f 12=a12,f 13=a13,f 14=a14,f 15=a15,f 16=a16,f 18=a18,f 19=a19;obtain⟨q1,q2,q3⟩:=U aN;have hvtB:∀g,vt.ownBlock=some g->B<=g/\g<w.heap.size:=(U HM).erow.lt;have z0:V.cell? (yq w 0)=some (H uU):=(yR (a:=(yq w 0)) (q3.block w.heap.size xJ (by omega) (fun e=>by have:=hvtB _ e.symm;omega))).trans (U HF0);have y5:V.cell? (J mb 5)=some (H t.left):=(q3.cell 5 (by omega)).trans (U hM 5 _ rfl);have f5:V.frozen? (J mb 5)=false:=(q3.frozen 5).trans (by have:=(U hT9 5 (by omega)).2;rwa[Nat.zero_add] at this);have pq:IntKind.i64.wrap (t.left-qty)=t.left-qty:=by rw[IntKind.wrap_i64];have:=U HQ;omega
  have hbxV:∃xA,V.heap[mb]? = some (.cells xA 259 (0,0)):=by obtain⟨xA,hc⟩:=U qk;exact q3.kind _ _ _ hc
  have hn17:some mb≠v17.ownBlock:=fC q2 hbxV (by decide);have HBX2:Hid (∃xA,(V.setCell (J mb 5) (H (t.left-qty))).drew.heap[mb]? = some (.cells xA 259 (0,0))):=by obtain⟨xA,hc⟩:=hbxV;exact fF V mb 5 _ hc
  have hms2:mb<(V.setCell (J mb 5) (H (t.left-qty))).drew.heap.size:=by
   have:=q3.size;show mb<(V.setCell (J mb 5) (H (t.left-qty))).heap.size;simp[World.setCell];omega
  have q4:ORow V B vq l:=row_took (U HORO) q3 hnq (gu (U HORO) (U HROW) (by decide));have Z0:(V.setCell (J mb 5) (H (t.left-qty))).drew.cell? (yq w 0)=some (H uU):=(yM _ _ _ _ (fun e=>by have:=congrArg Addr.block e;simp at this;omega)).trans z0;have je:Hid (ORow (V.setCell (J mb 5) (H (t.left-qty))).drew B vq l):=ek q4 hnq 5 _;have kC:Hid (ERow (V.setCell (J mb 5) (H (t.left-qty))).drew B v17 (ts ++ [trE t.id uU qty xz])):=ek q2 (fC q2 hbxV (by decide)) 5 _;have HC5:Hid ((V.setCell (J mb 5) (H (t.left-qty))).drew.cell? (J mb 5)=some (H (t.left-qty))):=yN _ _ _ y5;have uz:Hid (∀j,j≠5->(V.setCell (J mb 5) (H (t.left-qty))).drew.cell? (J mb j)=V.cell? (J mb j)):=fun j hj=>yM _ _ _ _ (ei (fun e=>hj e.symm));have HFR:Hid (∀j,(V.setCell (J mb 5) (H (t.left-qty))).drew.frozen? (J mb j)=V.frozen? (J mb j)):=fun j=>World.frozen?_setCell _ _ _ _;have xE:Hid (KeptBut mb B w (V.setCell (J mb 5) (H (t.left-qty))).drew):=kept_drew (hJ (hJ (lG (U hB0) (by omega)) (kept_took q3 (by omega) (fun g X=>(hvtB g X).1))) (kept_set V 5 _))
  have ug:B<=(V.setCell (J mb 5) (H (t.left-qty))).drew.heap.size:=by
   have:=q3.size;show B<=(V.setCell (J mb 5) (H (t.left-qty))).heap.size;simp[World.setCell];omega
  clear q2 q4 aN hbxV;have Q1:=Z q1;have Q3:=Z q3;clear q1 q3 z0;go_wp2_with fail;generalize kz:V.setCell (J mb 5) (H (t.left-qty))=V2 at Z0 je kC HC5 uz HFR xE ug HBX2 hms2 |-;clear kz y5 f5 pq;refine zD 6 (by kernel_rfl) (by kernel_rfl) ?_;simp only[yU,List.take_zero,yV,List.drop_zero]
  repeat still_step
  refine wpStill_nil ?_;go_wp2_with fail;refine(lx mb 0 B next uU qty vq l k ⟨uU,vA,xz,xN,vz,qO⟩ _ ((U uz 0 (by omega)).trans (((U Q3).cell 0 (by omega)).trans (U hM 0 _ rfl))) ((U uz 1 (by omega)).trans (((U Q3).cell 1 (by omega)).trans (U hM 1 _ rfl))) ((U HFR 1).trans (((U Q3).frozen 1).trans (by have:=(U hT9 1 (by omega)).2;rwa[Nat.zero_add] at this))) (U je) hnq hms2 ug hn (U HK) (U HC) (by have:=U HQ;omega) (by have:=U HQ;show qty<=xN;omega) oF).mono ?_;rintro e w9 ⟨uB,rfl,qU,bT,bC⟩;have HC1:=Z qU;have co:=Z bT;have HT9:=Z bC;clear qU bT bC;go_wp2_with fail;go_end0;have xt:∀j,j≠1->j≠5->j≠8->w9.cell? (J mb j)=W0.cell? (J mb j):=fun j D h5 h8=>((U HT9).cell j (by omega)).trans ((U uz j h5).trans ((U Q3).cell j (by omega)))
  have xW:w9.rangeAt mb 0 [H next,uB,H t.id,H t.side,H t.ticks,H (t.left-qty),H t.life,yk t.tag,v17]:=by
   intro j u hj;rw[Nat.zero_add]
   match j,hj with
   | 0,hj=>cases hj;exact(xt 0 (by omega) (by omega) (by omega)).trans (U hM 0 _ rfl)
   | 1,hj=>cases hj;exact U HC1
   | 2,hj=>cases hj;exact(xt 2 (by omega) (by omega) (by omega)).trans (U hM 2 _ rfl)
   | 3,hj=>cases hj;exact(xt 3 (by omega) (by omega) (by omega)).trans (U hM 3 _ rfl)
   | 4,hj=>cases hj;exact(xt 4 (by omega) (by omega) (by omega)).trans (U hM 4 _ rfl)
   | 5,hj=>cases hj;exact((U HT9).cell 5 (by omega)).trans (U HC5)
   | 6,hj=>cases hj;exact(xt 6 (by omega) (by omega) (by omega)).trans (U hM 6 _ rfl)
   | 7,hj=>cases hj;exact(xt 7 (by omega) (by omega) (by omega)).trans (U hM 7 _ rfl)
   | 8,hj=>cases hj;exact((U HT9).cell 8 (by omega)).trans ((U uz 8 (by omega)).trans (U Q1))
   | j+9,hj=>simp at hj
  refine⟨uB,v17,rfl,⟨xW,fun j hj=>⟨?_,?_⟩,U co,row_took (U kC) (U HT9) hn17 (gu (U kC) (U je) (by decide)),by obtain⟨xA,hc⟩:=U HBX2;exact(U HT9).kind _ _ _ hc,yO ug (U HT9).size⟩,hJ (U xE) (kept_took (U HT9) ug (fun g X=>((U je).lt g X).1))⟩
  ·match j,hj with
   | 0,_=>exact Option.isSome_iff_exists.2 ⟨_,xW 0 _ rfl⟩
   | 1,_=>exact Option.isSome_iff_exists.2 ⟨_,xW 1 _ rfl⟩
   | 2,_=>exact Option.isSome_iff_exists.2 ⟨_,xW 2 _ rfl⟩
   | 3,_=>exact Option.isSome_iff_exists.2 ⟨_,xW 3 _ rfl⟩
   | 4,_=>exact Option.isSome_iff_exists.2 ⟨_,xW 4 _ rfl⟩
   | 5,_=>exact Option.isSome_iff_exists.2 ⟨_,xW 5 _ rfl⟩
   | 6,_=>exact Option.isSome_iff_exists.2 ⟨_,xW 6 _ rfl⟩
   | 7,_=>exact Option.isSome_iff_exists.2 ⟨_,xW 7 _ rfl⟩
   | 8,_=>exact Option.isSome_iff_exists.2 ⟨_,xW 8 _ rfl⟩
   | j+9,h=>omega
  ·have:=(U hT9 j hj).2;rw[Nat.zero_add] at this |-;exact((U HT9).frozen j).trans ((U HFR j).trans (((U Q3).frozen j).trans this))
 ·rintro x zb V i op ⟨f,rfl,kZ,hD⟩ xn hx Q xu R;have uJ:=Z kZ;have HD:=Z hD
  have ps:i<17->0<i->¬ x[17]? = some true:=fun xM jO jC=>by
   have dC:=yf xn 17 rfl jC 16 rfl;have h4:=yf xn 17 rfl jC 4 rfl;have jd:=yf xn 16 rfl dC 15 rfl;have h9:=yf xn 15 rfl jd 9 rfl;have jc:=yf xn 15 rfl jd 11 rfl;have vT:=yf xn 15 rfl jd 12 rfl;have ph:=yf xn 15 rfl jd 14 rfl;have h8:=yf xn 9 rfl h9 8 rfl;have h7:=yf xn 8 rfl h8 7 rfl;have h6:=yf xn 7 rfl h7 6 rfl;have h5:=yf xn 6 rfl h6 5 rfl;have qi:=yf xn 11 rfl jc 10 rfl;have pg:=yf xn 14 rfl ph 13 rfl;have h3:=yf xn 4 rfl h4 3 rfl;have Y:=yf xn 3 rfl h3 2 rfl;have D:=yf xn 2 rfl Y 1 rfl
   have vU:∀j,0<j->j<17->x[j]? = some true:=fun j cR hj=>by
    rcases(by omega:j=1\/j=2\/j=3\/j=4\/j=5\/j=6\/j=7\/j=8\/j=9\/j=10\/j=11\/j=12\/j=13\/j=14\/j=15\/j=16) with rfl|rfl|rfl|rfl|rfl|rfl|rfl|rfl|rfl|rfl|rfl|rfl|rfl|rfl|rfl|rfl <;> assumption
   rw[vU i jO xM] at xu;cases xu
  have n20':i<20->¬ x[20]? = some true:=fun xM h20=>by
   have h19:=yf xn 20 rfl h20 19 rfl;have jC:=yf xn 20 rfl h20 17 rfl;have bN:=yf xn 19 rfl h19 18 rfl;have dC:=yf xn 17 rfl jC 16 rfl;have h4:=yf xn 17 rfl jC 4 rfl;have jd:=yf xn 16 rfl dC 15 rfl;have h9:=yf xn 15 rfl jd 9 rfl;have jc:=yf xn 15 rfl jd 11 rfl;have vT:=yf xn 15 rfl jd 12 rfl;have ph:=yf xn 15 rfl jd 14 rfl;have h8:=yf xn 9 rfl h9 8 rfl;have h7:=yf xn 8 rfl h8 7 rfl;have h6:=yf xn 7 rfl h7 6 rfl;have h5:=yf xn 6 rfl h6 5 rfl;have qi:=yf xn 11 rfl jc 10 rfl;have pg:=yf xn 14 rfl ph 13 rfl;have h3:=yf xn 4 rfl h4 3 rfl;have Y:=yf xn 3 rfl h3 2 rfl;have D:=yf xn 2 rfl Y 1 rfl;have h0:=yf xn 18 rfl bN 0 rfl
   have vU:∀j,j<20->x[j]? = some true:=fun j hj=>by
    rcases(by omega:j=0\/j=1\/j=2\/j=3\/j=4\/j=5\/j=6\/j=7\/j=8\/j=9\/j=10\/j=11\/j=12\/j=13\/j=14\/j=15\/j=16\/j=17\/j=18\/j=19) with rfl|rfl|rfl|rfl|rfl|rfl|rfl|rfl|rfl|rfl|rfl|rfl|rfl|rfl|rfl|rfl|rfl|rfl|rfl|rfl <;> assumption
   rw[vU i xM] at xu;cases xu
  have xl:∀(b o:Nat) (u:Value),W0.cell? (J b o)=some u->¬ x[17]? = some true->V.cell? (J b o)=some u:=fun b o u hu hn17=>((kZ hn17).cell (p:=(J b o)) (yL W0 _ hu)).trans hu;clear kZ xn
  match i,Q with
  | 0,Q|1,Q|5,Q =>
   cases Q;clear R hD;go_simp;exact⟨upd f _ (I mb 0),by simp[upd],eI (U HD) (by decide) (by decide) (fun _ _ h=>h) (U uJ) rfl⟩
  | 2,Q =>
   cases Q;have g:f 1=I mb 0:=hD 1 (ye R 1 rfl);clear R hD;go_simp;exact⟨upd f 2 (I mb 0),by simp[upd,g],eI (U HD) (by decide) (by decide) (fun _ _ h=>h) (U uJ) rfl⟩
  | 3,Q =>
   cases Q;have g:f 2=I mb 0:=hD 2 (ye R 2 rfl);clear R hD;go_simp;exact⟨upd f 3 (I mb 8),by simp[upd,g],eI (U HD) (by decide) (by decide) (fun _ _ h=>h) (U uJ) rfl⟩
  | 4,Q =>
   cases Q;have g:f 3=I mb 8:=hD 3 (ye R 3 rfl);have kn:=ps (by omega) (by omega);have y8:=xl mb 8 _ (U HM8) kn;clear R hD;go_simp;exact⟨upd f 4 (vt),by simp[upd,g],eI (U HD) (by decide) (by decide) (fun _ _ h=>h) (U uJ) rfl⟩
  | 6,Q =>
   cases Q;have g:f 5=I mb 0:=hD 5 (ye R 5 rfl);clear R hD;go_simp;exact⟨upd f 6 (I mb 0),by simp[upd,g],eI (U HD) (by decide) (by decide) (fun _ _ h=>h) (U uJ) rfl⟩
  | 7,Q =>
   cases Q;have g:f 6=I mb 0:=hD 6 (ye R 6 rfl);clear R hD;go_simp;exact⟨upd f 7 (I mb 2),by simp[upd,g],eI (U HD) (by decide) (by decide) (fun _ _ h=>h) (U uJ) rfl⟩
  | 8,Q =>
   cases Q;have g:f 7=I mb 2:=hD 7 (ye R 7 rfl);clear R hD;go_simp;exact⟨upd f 8 (I mb 2),by simp[upd,g],eI (U HD) (by decide) (by decide) (fun _ _ h=>h) (U uJ) rfl⟩
  | 9,Q =>
   cases Q;have g:f 8=I mb 2:=hD 8 (ye R 8 rfl);have kn:=ps (by omega) (by omega);have y2:=xl mb 2 _ (U xV) kn;clear R hD;go_simp;exact⟨upd f 9 (H t.id),by simp[upd,g],eI (U HD) (by decide) (by decide) (fun _ _ h=>h) (U uJ) rfl⟩
  | 10,Q =>
   cases Q;clear R hD;go_simp;exact⟨upd f 10 (yp w 0),by simp[upd],eI (U HD) (by decide) (by decide) (fun _ _ h=>h) (U uJ) rfl⟩
  | 11,Q =>
   cases Q;have g:f 10=yp w 0:=hD 10 (ye R 10 rfl);have kn:=ps (by omega) (by omega);have z0:=xl w.heap.size 0 _ (U HF0) kn;clear R hD;go_simp;exact⟨upd f 11 (H uU),by simp[upd,g],eI (U HD) (by decide) (by decide) (fun _ _ h=>h) (U uJ) rfl⟩
  | 12,Q =>
   cases Q;clear R hD;go_simp;exact⟨upd f 12 (H qty),by simp[upd],eI (U HD) (by decide) (by decide) (fun _ _ h=>h) (U uJ) rfl⟩
  | 13,Q =>
   cases Q;clear R hD;go_simp;exact⟨upd f 13 (yp w 2),by simp[upd],eI (U HD) (by decide) (by decide) (fun _ _ h=>h) (U uJ) rfl⟩
  | 14,Q =>
   cases Q;have g:f 13=yp w 2:=hD 13 (ye R 13 rfl);have kn:=ps (by omega) (by omega);have z2:=xl w.heap.size 2 _ (U ql) kn;clear R hD;go_simp;exact⟨upd f 14 (H xz),by simp[upd,g],eI (U HD) (by decide) (by decide) (fun _ _ h=>h) (U uJ) rfl⟩
  | 15,Q =>
   cases Q;have g9:f 9=H t.id:=hD 9 (ye R 9 rfl);have jB:f 11=H uU:=hD 11 (ye R 11 rfl);have vY:f 12=H qty:=hD 12 (ye R 12 rfl);have pf:f 14=H xz:=hD 14 (ye R 14 rfl);clear R hD;go_simp;exact⟨upd f 15 (evV (trE t.id uU qty xz)),by simp[upd,g9,jB,vY,pf,evV,trE,zCm],eI (U HD) (by decide) (by decide) (fun _ _ h=>h) (U uJ) rfl⟩
  | 16,Q =>
   cases Q;have g:f 15=evV (trE t.id uU qty xz):=hD 15 (ye R 15 rfl);have kn:=ps (by omega) (by omega);have vG:=U uJ kn;clear R hD;unfold evV trE at g;go_simp;refine⟨upd f 16 (.slice (some (yq V 0)) 1 1),by simp[upd,g],eI (U HD) (by decide) (by decide) (dt_alloc kn) (fun _=>vG.alloc vG.size _) ⟨V.heap.size,rfl,fun _=>?_⟩⟩;exact cellsT V (trE t.id uU qty xz) 37
  | 17,Q =>
   cases Q;have g4:f 4=vt:=hD 4 (ye R 4 rfl);obtain⟨s,g16,hcs⟩:=hD 16 (ye R 16 rfl);have kn:¬ x[17]? = some true:=by rw[xu];simp
   have n20:=n20' (by omega);have vG:=U uJ kn;have uF:ERow V B vt ts:=ff (U HROW) vG;rw[if_pos (by rfl)];refine wp_append_own V (.tmp 17) (.tmp 29) 28 rfl B 37 i0 _ 14 120 Tryz.underlying28 vk uI uG uZ rfl (by decide) vt ts.length (ts.flatMap Ev.vs) g4 uF (J s 0) 1 1 (trE t.id uU qty xz).vs g16 rfl (hcs kn) (one_ev _) (by unfold maxLen;omega) (by omega) (by have:=vG.size;omega) ?_;intro v' w' xY uR _;obtain⟨ga,gc,rfl⟩:=row_sliceT xY (by omega);refine⟨upd f 17 (.slice (some (J ga 0)) (ts.length+1) gc),rfl,rt_one (by decide) (U HD) xu n20 (fun j v hj h=>dt_one j v hj h) ⟨some (J ga 0),gc,rfl,trivial,fun _=>⟨?_,?_⟩,fun h=>h.elim⟩⟩
   ·show World.ownsRow _ _ _ _ _ (ts ++ [trE t.id uU qty xz]).length _;rw[yQ,List.flatMap_append];simpa using xY
   ·exact(eF vG ya).trans uR
  | 18,Q =>
   cases Q;have g:f 0=I mb 0:=hD 0 (ye R 0 rfl);clear R hD;go_simp;exact⟨upd f 18 (I mb 0),by simp[upd,g],eI (U HD) (by decide) (by decide) (fun _ _ h=>h) (U uJ) rfl⟩
  | 19,Q =>
   cases Q;have g:f 18=I mb 0:=hD 18 (ye R 18 rfl);clear R hD;go_simp;exact⟨upd f 19 (I mb 8),by simp[upd,g],eI (U HD) (by decide) (by decide) (fun _ _ h=>h) (U uJ) rfl⟩
  | 20,Q =>
   cases Q;have g19:f 19=I mb 8:=hD 19 (ye R 19 rfl);have bE:x[17]? = some true:=R ⟨17,.data⟩ (by simp) rfl;have n20:¬ x[20]? = some true:=by rw[xu];simp
   obtain⟨ga,gc,g17,-,hfa,-⟩:=hD 17 bE;obtain⟨kj,uR⟩:=hfa n20;have hmbV:some mb≠vt.ownBlock:=hnt;have y8:=uR.cell (U HM8) hmbV;have f8:V.frozen? (J mb 8)=false:=(World.frozen?_of_block (a:=(J mb 8)) (uR.block mb (by omega) hmbV)).trans (U HF8);have pu:=Z (g17 ▸ kj);have HBXV:Hid (∃xA,V.heap[mb]? = some (.cells xA 259 (0,0))):=by obtain⟨xA,hc⟩:=U qk;exact⟨xA,(uR.block mb (by omega) hmbV).trans hc⟩
   have HGR:=Z uR;clear R hD kj uR hfa;go_simp;refine⟨upd f 20 M,by simp[upd,g19,g17],rt_two (by decide) (U HD) bE xu (fun j hj hxj h=>dt_two j hj h (fun hj17=>?_)) trivial⟩;subst hj17;obtain⟨-,-,-,-,-,-⟩:=h;refine⟨ga,gc,g17,trivial,fun h=>absurd trivial h,fun _=>?_⟩;rw[g17];refine⟨yN _ _ _ y8,ek (U pu) (fC (U pu) (U HBXV) (by decide)) 8 _,?_⟩;exact ia (gH (U HGR) (by omega) hmbV) (took_set (o:=7) _ _)
  | i+21,Q=>simp at Q
theorem one_od (o:Od):∀u∈o.vs,u.oneCell'=true:=by
 intro u hu;simp[Od.vs] at hu;rcases hu with rfl|rfl|rfl|rfl|rfl|rfl <;> rfl
section
variable {mb B:Nat} {W0 V V':World} {vq:Value} {l:List Od} {t:Od} {p q:Prop}
end
theorem matS_took {mb B:Nat}{W w':World}{next:Int}{vq uB:Value}{l l':List Od}{t:Od}{vt:Value}{ts:List Ev}(h:MatS mb B W next vq l t vt ts)(ht:TookAt mb 0 vq.ownBlock W w')(hc:w'.cell? (J mb 1)=some uB)(Q:ORow w' B uB l'):MatS mb B w' next uB l' t vt ts:=by
 have xt:∀j,j≠1->w'.cell? (J mb j)=W.cell? (J mb j):=fun j D=>ht.cell j (by omega);refine⟨?_,fun j hj=>⟨?_,?_⟩,Q,row_took h.erow ht h.nt (gu h.erow h.orow (by decide)),by obtain⟨xA,hc⟩:=h.box;exact ht.kind _ _ _ hc,yO h.le ht.size⟩
 ·intro j u hj
  by_cases D:j=1
  ·subst D;cases hj;exact hc
  ·rw[Nat.zero_add,xt j D]
   have:W.cell? (J mb (0+j))=some u:=h.cells j u (by
    rcases j with _ | _ | j
    ·exact hj
    ·exact absurd rfl D
    ·exact hj)
   rwa[Nat.zero_add] at this
 ·by_cases D:j=1
  ·subst D;rw[Nat.zero_add,hc];rfl
  ·rw[Nat.zero_add,xt j D];have:=(h.there j hj).1;rwa[Nat.zero_add] at this
 ·rw[Nat.zero_add,ht.frozen];have:=(h.there j hj).2;rwa[Nat.zero_add] at this
theorem cells_of_mk (w:World)(F:List Value)(t:TypeId)(j:Nat)(u:Value)(h:F[j]? = some u):((w.alloc (Obj.cells F.toArray t)).drew).cell? (((yq w 0):Addr).add j)=some u:=
 World.news_of_block (heap_alloc_new w (Obj.cells F.toArray t)) j u (by simpa using h)
theorem rest_any (mb B:Nat)(next:Int)(vq:Value)(l:List Od)(t:Od)(vt:Value)(ts:List Ev)(w:World)(h:MatS mb B w next vq l t vt ts)(hn:l.length<=1000) :
  Calls Tryz.prog 211 #[I mb 0] w fun e w'=>∃uB,e=ym (.tuple #[])/\MatS mb B w' next uB (l ++ [t]) t vt ts/\KeptBut mb B w w':=by
 have HM:=Z h;have hmw:=h.lt;have jl:=h.le;have hnq:=h.nq;have qk:=Z h.box;have HORO:=Z h.orow;have hM:=Z h.cells;have HM1:Hid (w.cell? (J mb 1)=some vq):=U hM 1 _ rfl;have bZ:Hid (w.frozen? (J mb 1)=false):=by have:=(h.there 1 (by omega)).2;rwa[Nat.zero_add] at this
 clear h;obtain⟨i0,vk,uI,uG,uZ⟩:=info_parts Tryz.infoOrder;go_enter Tryz.func211,Tryz.ntmps211;go_wp2_with fail;have hj1:=U HM1;have pA:=U bZ;have k2:=U hM 2 _ rfl;have k3:=U hM 3 _ rfl;have k4:=U hM 4 _ rfl;have k5:=U hM 5 _ rfl;have k6:=U hM 6 _ rfl;have k7:=U hM 7 _ rfl;rw[Nat.zero_add] at k2 k3 k4 k5 k6 k7
 go_region_law ((refine step_append_lies _ (by rfl) _ _ _ (by rfl) B 65 i0 _ 6 56 Tryz.underlying25 vk uI uG uZ rfl (by decide) _ l.length (l.flatMap Od.vs) (by rfl) (zt (U HORO) ((Below.refl w.heap.size w).alloc ya _).drew) (yq w 0) 1 1 t.vs (by rfl) rfl (cells_of_mk w t.vs _) (one_od t) (by decide) (by unfold maxLen;omega) (by omega) (by show B<=(w.alloc _).heap.size;rw[zf];omega) (w.heap.size+1) (by simp) ?_;intro gq cq w5 vh vI hat5 hlt5;have y1:=(vI.cell_far (J mb 1) (by show mb<(w.alloc _).heap.size;rw[zf];omega) hnq).trans ((((Below.refl w.heap.size w).alloc ya _).drew.cell (p:=(J mb 1)) (by show mb < _;omega)).trans hj1);have r1:=(vI.frozen_far (J mb 1) (by show mb<(w.alloc _).heap.size;rw[zf];omega) hnq).trans ((World.frozen?_of_block (a:=(J mb 1)) (((Below.refl w.heap.size w).alloc ya _).drew.block mb (by omega))).trans pA)))
 all_goals
  have bR:yn w ((w.alloc (Obj.cells t.vs.toArray 65)).drew):=((Below.refl w.heap.size w).alloc ya _).drew;have uR:w.grownBy w5 vq.ownBlock:=zw (eF bR ya) vI;have qq:TookAt mb 0 vq.ownBlock w (w5.setCell (J mb 1) (.slice (some (J gq 0)) (l.length+1) cq)):=ia (gH uR (by omega) hnq) (took_set (o:=0) _ _);have jM:∃xA,w5.heap[mb]? = some (.cells xA 259 (0,0)):=by obtain⟨xA,hc⟩:=U qk;exact⟨xA,(uR.block mb (by omega) hnq).trans hc⟩
  have aG:ORow w5 B (.slice (some (J gq 0)) (l.length+1) cq) (l ++ [t]):=by show World.ownsRow _ _ _ _ _ _ _;rw[yQ,List.flatMap_append];simpa using vh
  go_end0;exact⟨_,rfl,matS_took (U HM) qq (yN _ _ _ y1) (ek aG (fC aG jM (by decide)) 1 _),kept_took qq jl (fun g X=>((U HORO).lt g X).1)⟩
def fullB (l:List Od):Bool:=if 20<l.length then true else decide (8<((ef true 1 (zv l 1)).length:Int)+(ef false 2 (zv l 2)).length)
def DF (mb:Nat)(BV:Value)(q1 q2:List Od)(N:Int)(p:Prop)(W:World):Nat->Value->Prop
 | 0,v=>v=I mb 0
 | 1,v=>v=I mb 0
 | 2,v=>v=I mb 0
 | 3,v=>v=BV
 | 4,v=>∃b,v=eX b/\Tb W b q1
 | 5,v=>v=I mb 0
 | 6,v=>v=I mb 0
 | 7,v=>v=I mb 0
 | 8,v=>v=BV
 | 9,v=>∃b,v=eZ b/\Ts W b q2
 | 10,v=>v=H N
 | 11,v=>v = .bool (decide (8<N))
 | 12,v=>v = .bool (decide (8<N))
 | _,_=>True
theorem df_mono {mb:Nat}{BV:Value}{q1 q2:List Od}{N:Int}:∀p W W' j v,yn W W'->DF mb BV q1 q2 N p W j v->DF mb BV q1 q2 N p W' j v:=by
 intro p W W' j v E h
 match j with
 | 0|1|2|3|5|6|7|8|10|11|12=>exact h
 | 4=>obtain⟨b,D,Y⟩:=h;exact⟨b,D,zx Y (E.block _ (zL Y))⟩
 | 9=>obtain⟨b,D,Y⟩:=h;exact⟨b,D,zx Y (E.block _ (zL Y))⟩
 | n+13=>trivial
theorem isTooFull_any (mb B:Nat)(next:Int)(vq:Value)(l:List Od)(t:Od)(vt:Value)(ts:List Ev)(w:World)(h:MatS mb B w next vq l t vt ts)(hm:l.length<=1000)(hl:∀o'∈l,0<=o'.left/\o'.left<=1000000) :
  Calls Tryz.prog 212 #[I mb 0] w fun e w'=>e=ym (.bool (fullB l))/\yn w w':=by
 have hmw:=h.lt;have jl:=h.le;have HR:=Z (zI h.orow (by omega));obtain⟨a,cap,rfl,_,_⟩:=zI h.orow (by omega);have HM:=Z h.cells;have z0:w.cell? (J mb 0)=some (H next):=h.cells 0 _ rfl;have z1:w.cell? (J mb 1)=some (.slice a l.length cap):=h.cells 1 _ rfl;have HLB:=Z hl;clear h hl;go_enter Tryz.func212,Tryz.ntmps212
 by_cases h20:20<l.length
 ·have h20':(20:Int)<l.length:=by omega
  have HF:Hid (fullB l=true):=if_pos h20;clear h20;go_wp2_with fail;go_ret;exact⟨zp (U HF).symm,Below.refl _ _⟩
 have h20':¬ (20:Int)<l.length:=by omega
 have hn:l.length<=20:=by omega
 have n1:(zv l 1).length<=20:=yO (List.length_filter_le _ _) hn;have n2:(zv l 2).length<=20:=yO (List.length_filter_le _ _) hn;generalize hN:((ef true 1 (zv l 1)).length:Int)+(ef false 2 (zv l 2)).length=N;have HF:Hid (fullB l=decide (8<N)):=by show _ = _;rw[fullB,if_neg h20,hN]
 have HNN:=Z hN;clear hN h20;go_wp2_with fail;clear z0 z1;refine zu (RG w (fun f=>{ tmps:=#[I mb 0,M,f 12,I mb 0,I mb 0,I mb 0,I mb 1,.slice a l.length cap,H l.length,.bool false,f 0,f 1,f 2,f 3,f 4,f 5,f 6,f 7,f 8,f 9,f 10,f 11],defers:=[] }) 99 (DF mb (.agg #[H next,.slice a l.length cap]) (zv l 1) (zv l 2) N)) (by kernel_rfl) ?_ ?_ ?_
 ·exact⟨fun j=>if j=12 then .bool false else M,rfl,⟨rfl,rfl,rfl,Nat.le_refl _,fun _ _=>rfl⟩,fun j hj=>by rw[yJ] at hj;split at hj <;> simp at hj⟩
 ·rintro x zb V ⟨f,rfl,xo,hD⟩ hx xS;have xq:=eE xS hx (acyc _ (by kernel_rfl));have vS:f 12 = .bool (decide (8<N)):=hD 12 (xq 12 (by simp));have xK:=Z xo;simp only[vS];clear hD xq vS xS hx xo;go_wp2_with fail;go_ret;exact⟨zp (U HF).symm,U xK⟩
 ·rintro x zb V i o ⟨f,rfl,xo,hD⟩ xn hx Q xu R;clear xn;have xK:=Z xo;have HD:=Z hD;have z0:=zc (U HM) xo hmw 0 _ rfl;have z1:=zc (U HM) xo hmw 1 _ rfl;rw[Nat.zero_add] at z0 z1;have vn:=Z (zi (U HR) xo ya)
  match i,Q with
  | 0,Q|5,Q =>
   cases Q;clear R hD xo;go_simp;exact⟨upd f _ (I mb 0),by simp[upd],zG (U xK) (U HD) (by decide) rfl⟩
  | 1,Q =>
   cases Q;have g:f 0=I mb 0:=hD 0 (ye R 0 rfl);clear R hD xo;go_simp;exact⟨upd f 1 (I mb 0),by simp[upd,g],zG (U xK) (U HD) (by decide) rfl⟩
  | 2,Q =>
   cases Q;have g:f 1=I mb 0:=hD 1 (ye R 1 rfl);clear R hD xo;go_simp;exact⟨upd f 2 (I mb 0),by simp[upd,g],zG (U xK) (U HD) (by decide) rfl⟩
  | 3,Q =>
   cases Q;have g:f 2=I mb 0:=hD 2 (ye R 2 rfl);clear R hD xo;go_simp;exact⟨upd f 3 (.agg #[H next,.slice a l.length cap]),by simp[upd,g],zG (U xK) (U HD) (by decide) rfl⟩
  | 4,Q =>
   cases Q;have g:f 3 = .agg #[H next,.slice a l.length cap]:=hD 3 (ye R 3 rfl);clear R hD xo;go_simp;refine(lM next _ l V (U vn) hn (U HLB)).mono ?_;rintro e w4 ⟨b,rfl,ht,qS,xy⟩;exact⟨upd f 4 (eX b),by simp[upd,g],rg_grow df_mono (U xK) (U HD) xy (by decide) ⟨b,rfl,ht⟩⟩
  | 6,Q =>
   cases Q;have g:f 5=I mb 0:=hD 5 (ye R 5 rfl);clear R hD xo;go_simp;exact⟨upd f 6 (I mb 0),by simp[upd,g],zG (U xK) (U HD) (by decide) rfl⟩
  | 7,Q =>
   cases Q;have g:f 6=I mb 0:=hD 6 (ye R 6 rfl);clear R hD xo;go_simp;exact⟨upd f 7 (I mb 0),by simp[upd,g],zG (U xK) (U HD) (by decide) rfl⟩
  | 8,Q =>
   cases Q;have g:f 7=I mb 0:=hD 7 (ye R 7 rfl);clear R hD xo;go_simp;exact⟨upd f 8 (.agg #[H next,.slice a l.length cap]),by simp[upd,g],zG (U xK) (U HD) (by decide) rfl⟩
  | 9,Q =>
   cases Q;have g:f 8 = .agg #[H next,.slice a l.length cap]:=hD 8 (ye R 8 rfl);clear R hD xo;go_simp;refine(lA next 2 (by omega) _ l V (U vn) hn (U HLB)).mono ?_;rintro e w4 ⟨b,rfl,ht,qS,xy⟩;exact⟨upd f 9 (eZ b),by simp[upd,g],rg_grow df_mono (U xK) (U HD) xy (by decide) ⟨b,rfl,ht⟩⟩
  | 10,Q =>
   cases Q;obtain⟨b1,g4,t4⟩:=hD 4 (ye R 4 rfl);obtain⟨b2,g9,t9⟩:=hD 9 (ye R 9 rfl);have HT4:=Z t4;have HT9:=Z t9;clear R hD xo t4 t9;go_simp;refine(mf b1 b2 1 2 (zv l 1) (zv l 2) V (U HT4) (U HT9) n1 n2).mono ?_;rw[U HNN];rintro e w4 ⟨rfl,xy⟩;exact⟨upd f 10 (H N),by simp[upd,g4,g9],rg_grow df_mono (U xK) (U HD) xy (by decide) rfl⟩
  | 11,Q =>
   cases Q;have g:f 10=H N:=hD 10 (ye R 10 rfl);clear R hD xo;go_simp;exact⟨upd f 11 (.bool (decide (8<N))),by simp[upd,g],zG (U xK) (U HD) (by decide) rfl⟩
  | 12,Q =>
   cases Q;have g:f 11 = .bool (decide (8<N)):=hD 11 (ye R 11 rfl);clear R hD xo;go_simp;exact⟨upd f 12 (.bool (decide (8<N))),by simp[upd,g],zG (U xK) (U HD) (by decide) rfl⟩
  | n+13,Q=>simp at Q
def dZ (l:List Od)(sd:Int):Option Od:=(quOf (decide (sd=1)) (zv l sd)).head?
def matL (c:Cm)(id:Int):Nat->List Od->Int->List Ev->List Od × Int × List Ev
 | 0,l,left,ts=>(l,left,ts)
 | n+1,l,left,ts =>
  if 0<left then
   match dZ l (othS c.s) with
   | none=>(l,left,ts)
   | some o=>if eB c o=true then matL c id n (dR l (plc l o.id).toNat o (min left o.left)) (left-min left o.left) (ts ++ [trE id o.id (min left o.left) o.ticks]) else(l,left,ts)
  else(l,left,ts)
structure GoodL (l:List Od):Prop where
 len:l.length<=20
 left:∀o∈l,0<o.left/\o.left<=1000000
 rise:eo l
theorem gJ {l:List Od}{sd:Int}{o:Od}(h:dZ l sd=some o):o∈l/\o.side=sd:=by
 have D:o∈quOf (decide (sd=1)) (zv l sd):=List.mem_of_head? h;obtain⟨k,_,Y⟩:=List.mem_flatMap.1 D;have h3:=(List.mem_filter.1 Y).1;have h4:=List.mem_filter.1 h3;exact⟨h4.1,by simpa using h4.2⟩
theorem rise_id {l:List Od}(hr:eo l){i k:Nat}{o o':Od}(hi:l[i]? = some o')(hk:l[k]? = some o)(he:o'.id=o.id):i=k:=by
 obtain⟨D,rfl⟩:=yH.1 hi;obtain⟨Y,rfl⟩:=yH.1 hk;rcases Nat.lt_trichotomy i k with h|h|h
 ·have:=List.pairwise_iff_getElem.1 hr i k D Y h;omega
 ·exact h
 ·have:=List.pairwise_iff_getElem.1 hr k i Y D h;omega
theorem fU {l:List Od}(hr:eo l){k:Nat}{o:Od}(hk:l[k]? = some o):plc l o.id=k:=by
 rcases plcF_spec o.id l 0 with⟨_,Y⟩|⟨i,o',D,Y,h3,_⟩
 ·exact absurd rfl (Y o (yP hk))
 ·rw[plc,D,rise_id hr Y hk h3];congr 1;omega
theorem gN {l:List Od}(h:GoodL l){k:Nat}{o:Od}(hk:l[k]? = some o){qty:Int}(h0:0<=qty)(D:qty<=o.left):GoodL (dR l k o qty)/\((dR l k o qty).length+1=l.length\/(qty<o.left/\(dR l k o qty).length=l.length)):=by
 have oE:=(yH.1 hk).1
 by_cases he:o.left=qty
 ·have e:dR l k o qty=l.take k++l.drop (k+1):=if_pos he;rw[e]
  have hs:(l.take k++l.drop (k+1)).Sublist l:=by
   have:(l.take k++l.drop (k+1)).Sublist (l.take k++l.drop k):=List.Sublist.append (List.Sublist.refl _) (by rw[drop_get hk];exact List.sublist_cons_self _ _);rwa[List.take_append_drop] at this
  refine⟨⟨yO hs.length_le h.len,fun o' vW=>h.left o' (hs.subset vW),h.rise.sublist hs⟩,.inl ?_⟩;simp;omega
 ·have e:dR l k o qty=l.set k { o with left:=o.left-qty }:=if_neg he;rw[e];have Q:=h.left o (yP hk);refine⟨⟨by rw[List.length_set];exact h.len,fun o' vW=>?_,?_⟩,.inr ⟨by omega,by rw[List.length_set]⟩⟩
  ·rcases List.mem_or_eq_of_mem_set vW with Y|rfl
   ·exact h.left o' Y
   ·simp only;omega
  ·refine List.pairwise_iff_getElem.2 fun i j hi hj aB=>?_;rw[List.length_set] at hi hj;have hp:=List.pairwise_iff_getElem.1 h.rise i j hi hj aB;have hko:l[k]=o:=by have:=(yH.1 hk).2;exact this
   rw[List.getElem_set,List.getElem_set];split <;> split
   ·omega
   ·next Y _=>subst Y;rw[hko] at hp;exact hp
   ·next _ Y=>subst Y;rw[hko] at hp;exact hp
   ·exact hp
structure MI (c:Cm) (id:Int) (cs:List Od × Int × List Ev) (l:List Od) (left:Int) (ts:List Ev):Prop where
 good:GoodL l
 l0:0<=left
 l1:left<=1000000
 few:ts.length<=21
 some:0<left->ts.length+l.length<=20
 goal:∃n,matL c id n l left ts=cs/\(0<left->l.length<n)
theorem matL_end {c:Cm}{id:Int}{n:Nat}{l:List Od}{left:Int}{ts:List Ev}(h:left<=0):matL c id n l left ts=(l,left,ts):=by
 cases n with
 | zero=>rfl
 | succ n=>rw[matL,if_neg (by omega)]
theorem mi_start {c:Cm}{id:Int}{l:List Od}{left:Int}(h:GoodL l)(h0:0<=left)(D:left<=1000000):MI c id (matL c id 21 l left []) l left []:=
 ⟨h,h0,D,by simp,fun _=>by simpa using h.len,21,rfl,fun _=>by have:=h.len;omega⟩
theorem mi_none {c:Cm}{id:Int}{cs:List Od × Int × List Ev}{l:List Od}{left:Int}{ts:List Ev}(h:MI c id cs l left ts)(hf:dZ l (othS c.s)=none):cs=(l,left,ts):=by
 obtain⟨n,rfl,hn⟩:=h.goal
 by_cases h0:0<left
 ·obtain⟨m,rfl⟩:∃m,n=m+1:=⟨n-1,by have:=hn h0;omega⟩;rw[matL,if_pos h0,hf]
 ·exact matL_end (by omega)
theorem mi_stop {c:Cm}{id:Int}{cs:List Od × Int × List Ev}{l:List Od}{left:Int}{ts:List Ev}(h:MI c id cs l left ts){o:Od}(hf:dZ l (othS c.s)=some o)(hm:eB c o=false):cs=(l,left,ts):=by
 obtain⟨n,rfl,hn⟩:=h.goal
 by_cases h0:0<left
 ·obtain⟨m,rfl⟩:∃m,n=m+1:=⟨n-1,by have:=hn h0;omega⟩;rw[matL,if_pos h0,hf];simp only[hm];rw[if_neg (by simp)]
 ·exact matL_end (by omega)
theorem mi_done {c:Cm}{id:Int}{cs:List Od × Int × List Ev}{l:List Od}{left:Int}{ts:List Ev}(h:MI c id cs l left ts)(h0:¬ 0<left):cs=(l,left,ts):=by
 obtain⟨n,rfl,hn⟩:=h.goal;exact matL_end (by omega)
theorem mi_step {c:Cm}{id:Int}{cs:List Od × Int × List Ev}{l:List Od}{left:Int}{ts:List Ev}(h:MI c id cs l left ts)(h0:0<left){o:Od}(hf:dZ l (othS c.s)=some o)(hm:eB c o=true) :
  ∃k,plc l o.id=(k:Nat)/\l[k]? = some o/\MI c id cs (dR l k o (min left o.left)) (left-min left o.left) (ts ++ [trE id o.id (min left o.left) o.ticks])/\2*(dR l k o (min left o.left)).length+(if 0<left-min left o.left then 1 else 0)<2*l.length+1:=by
 obtain⟨vr,_⟩:=gJ hf;obtain⟨k,hk⟩:=List.getElem?_of_mem vr;have hp:=fU h.good.rise hk;have Q:=h.good.left o vr;have D:=h.l1;have hs:=h.some h0;obtain⟨X,hl⟩:=gN h.good hk (qty:=min left o.left) (by omega) (by omega);obtain⟨n,hF,hn⟩:=h.goal;obtain⟨m,rfl⟩:∃m,n=m+1:=⟨n-1,by have:=hn h0;omega⟩;have hn:=hn h0;rw[matL,if_pos h0,hf] at hF;simp only[hm,if_true] at hF;rw[hp,Int.toNat_natCast] at hF;refine⟨k,hp,hk,⟨X,by omega,by omega,?_,fun xM=>?_,m,hF,fun xM=>?_⟩,?_⟩
 ·rw[yQ];simp only[List.length_cons,List.length_nil];omega
 ·rw[yQ];simp only[List.length_cons,List.length_nil];omega
 ·omega
 ·split <;> omega
section
variable {base W W':World} {cs:(Nat->Value)->Act} {k:Nat} {h1:Prop->World->Nat->Value->Prop} {x:List Bool} {f:Nat->Value}
theorem fG (E:yn base W)(h:∀j,x[j]? = some true->h1 (x[k]? = some true) W j (f j))(X:yn W W'){i:Nat}(hik:i≠k)(hm:∀j v,h1 (x[k]? = some true) W j v->h1 (x[k]? = some true) W' j v){v:Value}(hv:h1 (x[k]? = some true) W' i v) :
  yn base W'/\∀j,(x.set i true)[j]? = some true->h1 ((x.set i true)[k]? = some true) W' j (upd f i v j):=by
 refine⟨E.trans (X.mono E.size),fun j hj=>?_⟩;rw[yX hik]
 by_cases hji:j=i
 ·subst hji;rw[zo];exact hv
 ·rw[zk _ _ hji];rw[yX (fun e=>hji e.symm)] at hj;exact hm _ _ (h j hj)
theorem rgx_last (E:yn base W')(h:∀j,x[j]? = some true->h1 (x[k]? = some true) W j (f j))(hk:x[k]? = some false)(hm:∀j,j≠k->x[j]? = some true->h1 False W j (f j)->h1 True W' j (f j)){v:Value}(hv:h1 True W' k v) :
  yn base W'/\∀j,(x.set k true)[j]? = some true->h1 ((x.set k true)[k]? = some true) W' j (upd f k v j):=by
 have e:((x.set k true)[k]? = some true)=True:=by
  rw[List.getElem?_set_self (yH.1 hk).1];simp
 refine⟨E,fun j hj=>?_⟩;rw[e]
 by_cases hji:j=k
 ·subst hji;rw[zo];exact hv
 ·rw[zk _ _ hji];rw[yX (fun e=>hji e.symm)] at hj;refine hm j hji hj ?_;have:=h j hj;rw[hk] at this;simpa using this
end
theorem matS_made {V:World}{mb B:Nat}{next:Int}{a4:Option Addr}{c4:Nat}{l:List Od}{c:Cm}(ht:V.there mb 0 9)(E:∃xA,V.heap[mb]? = some (.cells xA 259 (0,0)))(Q:ORow V B (.slice a4 l.length c4) l)(hB:B<=V.heap.size) :
  MatS mb B (V.setCells mb 0 [H next,.slice a4 l.length c4,H next,H c.s,H (tk c.p),H c.q,H c.l,yk c.g,.slice none 0 0]) next (.slice a4 l.length c4) l (ordO c next) (.slice none 0 0) []:=by
 have hn:some mb≠(Value.slice a4 l.length c4).ownBlock:=fC Q E (by decide);have hr:=yY V mb 0 [H next,.slice a4 l.length c4,H next,H c.s,H (tk c.p),H c.q,H c.l,yk c.g,.slice none 0 0] (fun j hj=>ht j hj);refine⟨hr,fun j hj=>⟨?_,?_⟩,?_,World.ownsRow_nil _ _ _ _,?_,?_⟩
 ·obtain⟨u,hu⟩:∃u,[H next,.slice a4 l.length c4,H next,H c.s,H (tk c.p),H c.q,H c.l,yk c.g,.slice none 0 0][j]? = some u:=⟨_,yI (by simpa using hj)⟩;rw[hr j u hu];rfl
 ·have:=(ht j hj).2;simp only[World.setCells,World.frozen?_setCell];exact this
 ·simp only[World.setCells];exact ek (ek (ek (ek (ek (ek (ek (ek (ek Q hn _ _) hn _ _) hn _ _) hn _ _) hn _ _) hn _ _) hn _ _) hn _ _) hn _ _
 ·obtain⟨xA,E⟩:=E;simp only[World.setCells];obtain⟨_,D⟩:=fF V mb 0 (H next) E;obtain⟨_,D⟩:=fF _ mb 1 (.slice a4 l.length c4) D;obtain⟨_,D⟩:=fF _ mb 2 (H next) D;obtain⟨_,D⟩:=fF _ mb 3 (H c.s) D;obtain⟨_,D⟩:=fF _ mb 4 (H (tk c.p)) D;obtain⟨_,D⟩:=fF _ mb 5 (H c.q) D;obtain⟨_,D⟩:=fF _ mb 6 (H c.l) D;obtain⟨_,D⟩:=fF _ mb 7 (yk c.g) D;exact fF _ mb 8 (.slice none 0 0) D
 ·simp only[World.setCells,World.setCell,Array.size_modify];exact hB
def DM (b2 B:Nat)(base:World)(next:Int)(a:Option Addr)(cap:Nat)(l:List Od)(c:Cm)(p:Prop)(V:World):Nat->Value->Prop
 | 0,v=>v = .agg #[H next,.slice a l.length cap]
 | 1,v=>∃a4 c4,v = .agg #[H next,.slice a4 l.length c4]/\(¬ p->ORow V B (.slice a4 l.length c4) l)
 | 2,v=>v = .agg #[H c.s,H c.t,H c.l,H c.q,yj c.p,yk c.g]
 | 3,v=>v=I b2 0
 | 4,v=>v=H next
 | 5,v=>v = .agg (yw next c.s (tk c.p) c.q c.l c.g).toArray
 | 6,v=>∃a4 c4,v = .agg #[H next,.slice a4 l.length c4,H next,H c.s,H (tk c.p),H c.q,H c.l,yk c.g,.slice none 0 0]/\(¬ p->ORow V B (.slice a4 l.length c4) l)
 | 7,v=>∃mb,v=I mb 0/\base.heap.size<=mb/\(¬ p->V.there mb 0 9/\∃xA,V.heap[mb]? = some (.cells xA 259 (0,0)))/\(p->∃a4 c4,MatS mb B V next (.slice a4 l.length c4) l (ordO c next) (.slice none 0 0) [])
 | _,_=>True
section
variable {b2 B:Nat} {base V V':World} {next:Int} {a:Option Addr} {cap:Nat} {l:List Od} {c:Cm} {p:Prop}
theorem dm_grow (hp:¬ p)(E:yn V V'):∀j v,DM b2 B base next a cap l c p V j v->DM b2 B base next a cap l c p V' j v:=by
 intro j v h
 match j with
 | 0|2|3|4|5=>exact h
 | 1=>obtain⟨a4,c4,D,Y⟩:=h;exact⟨a4,c4,D,fun hp=>zt (Y hp) E⟩
 | 6=>obtain⟨a4,c4,D,Y⟩:=h;exact⟨a4,c4,D,fun hp=>zt (Y hp) E⟩
 | 7 =>
  obtain⟨mb,D,Y,h3,h4⟩:=h;refine⟨mb,D,Y,fun hp=>?_,fun h=>absurd h hp⟩;obtain⟨h5,xA,h6⟩:=h3 hp;have xM:=(yZ.1 h6).1;exact⟨zl h5 E xM,xA,(E.block mb xM).trans h6⟩
 | j+8=>trivial
theorem dm_last {v:Value}:∀j,j≠8->DM b2 B base next a cap l c False V j v->(j=7->DM b2 B base next a cap l c True V' 7 v)->DM b2 B base next a cap l c True V' j v:=by
 intro j hj h h7
 match j with
 | 0|2|3|4|5=>exact h
 | 1=>obtain⟨a4,c4,D,Y⟩:=h;exact⟨a4,c4,D,fun hp=>absurd trivial hp⟩
 | 6=>obtain⟨a4,c4,D,Y⟩:=h;exact⟨a4,c4,D,fun hp=>absurd trivial hp⟩
 | 7=>exact h7 rfl
 | j+8=>trivial
end
theorem matS_next {mb B:Nat}{W:World}{next:Int}{vq:Value}{l:List Od}{t:Od}{vt:Value}{ts:List Ev}(h:MatS mb B W next vq l t vt ts)(n':Int):MatS mb B (W.setCell (J mb 0) (H n')) n' vq l t vt ts:=by
 have hoth:∀j,j≠0->(W.setCell (J mb 0) (H n')).cell? (J mb j)=W.cell? (J mb j):=fun j hj=>yM _ _ _ _ (ei (fun e=>hj e.symm));have oC:(W.setCell (J mb 0) (H n')).cell? (J mb 0)=some (H n'):=yN _ _ _ (h.cells 0 _ rfl);refine⟨?_,fun j hj=>⟨?_,?_⟩,ek h.orow h.nq 0 _,ek h.erow h.nt 0 _,by obtain⟨xA,hc⟩:=h.box;exact fF W mb 0 _ hc,by have:=h.le;simpa[World.setCell] using this⟩
 ·intro j u hj;rw[Nat.zero_add];rcases j with _ | j
  ·cases hj;exact oC
  ·rw[hoth (j+1) (by omega)];have:W.cell? (J mb (0+(j+1)))=some u:=h.cells (j+1) u hj;rwa[Nat.zero_add] at this
 ·rw[Nat.zero_add];rcases j with _ | j
  ·rw[oC];rfl
  ·rw[hoth (j+1) (by omega)];have:=(h.there (j+1) hj).1;rwa[Nat.zero_add] at this
 ·rw[World.frozen?_setCell];exact(h.there j hj).2
theorem iW {mb B:Nat}{W W':World}{next:Int}{vq:Value}{l:List Od}{t:Od}{vt:Value}{ts:List Ev}(h:MatS mb B W next vq l t vt ts)(E:yn W W'):MatS mb B W' next vq l t vt ts:=
 ⟨zc h.cells E h.lt,zl h.there E h.lt,zt h.orow E,ff h.erow E,by obtain⟨xA,hc⟩:=h.box;exact⟨xA,(E.block mb h.lt).trans hc⟩,yO h.le E.size⟩
def meas (mb:Nat)(W:World):Nat:=(match W.cell? (J mb 1) with|some (.slice _ n _)=>2*n | _=>0)+(match W.cell? (J mb 5) with|some (.int _ n)=>if 0<n then 1 else 0 | _=>0)
theorem meas_eq {mb B:Nat}{W:World}{next:Int}{vq:Value}{l:List Od}{t:Od}{vt:Value}{ts:List Ev}(h:MatS mb B W next vq l t vt ts):meas mb W=2*l.length+(if 0<t.left then 1 else 0):=by
 have D:W.cell? (J mb 1)=some vq:=h.cells 1 _ rfl;have h5:W.cell? (J mb 5)=some (H t.left):=h.cells 5 _ rfl
 have hq:∃a c,vq = .slice a l.length c:=by
  rcases h.orow.2 with⟨e,e2⟩|⟨g,cap,xA,e,_⟩
  ·exact⟨none,0,by rw[e,e2]⟩
  ·exact⟨_,_,e⟩
 obtain⟨a,c,rfl⟩:=hq;rw[meas,D,h5]
theorem match_end {w W3 W8:World}{mb:Nat}{next:Int}{vq vt:Value}{l:List Od}{t:Od}{ts:List Ev}(hM:MatS mb W3.heap.size W8 next vq l t vt ts)(hK:KeptBut mb W3.heap.size W3 W8)(E:yn w W3)(hs:W3.heap.size=w.heap.size+1+1+1)(hm:W3.heap.size<=mb)(vs:List Value)(hv:vs.length=9)(ht:W8.there (w.heap.size+1+1) 0 9) :
  (W8.setCells (w.heap.size+1+1) 0 vs).rangeAt (w.heap.size+1+1) 0 vs/\ORow (W8.setCells (w.heap.size+1+1) 0 vs) w.heap.size vq l/\ERow (W8.setCells (w.heap.size+1+1) 0 vs) w.heap.size vt ts/\yn w (W8.setCells (w.heap.size+1+1) 0 vs):=by
 have hb8:yn w W8:=⟨hK.os.trans E.os,hK.tape.trans E.tape,hK.output.trans E.output,yO E.size hK.size,fun k hk=>(hK.block k (by omega) (by omega)).trans (E.block k hk)⟩;have kK:yn w (W8.setCells (w.heap.size+1+1) 0 vs):=zh (w.heap.size+1+1) (by omega) vs 0 W8 hb8
 have uR:W8.grownBy (W8.setCells (w.heap.size+1+1) 0 vs) (some (w.heap.size+1+1)):=by
  have h9:∀(us:List Value) (o:Nat) (hg:World),hg.grownBy (hg.setCells (w.heap.size+1+1) o us) (some (w.heap.size+1+1)):=by
   intro us
   induction us with
   | nil=>intro o hg;exact⟨rfl,rfl,rfl,Nat.le_refl _,fun _ _ _=>rfl⟩
   | cons u r ih =>
    intro o hg;have D:hg.grownBy (hg.setCell (J (w.heap.size+1+1) o) u) (some (w.heap.size+1+1)):=⟨rfl,rfl,rfl,by simp[World.setCell],fun k _ hk=>yT _ _ _ _ (fun e=>hk (by rw[e]))⟩;exact D.trans (ih (o+1) _)
  exact h9 vs 0 W8
 have n4:∀v:Value,(∀g,v.ownBlock=some g->W3.heap.size<=g)->v.ownBlock=none\/v.ownBlock≠some (w.heap.size+1+1):=fun v hv=>.inr (fun e=>by have:=hv _ e;omega);exact⟨yY W8 _ 0 vs (fun j hj=>ht j (by omega)),zU (hM.orow.kept uR (n4 vq (fun g X=>(hM.orow.lt g X).1))) (by omega),zU (hM.erow.kept uR (n4 vt (fun g X=>(hM.erow.lt g X).1))) (by omega),kK⟩
def SdV (V:World)(v:Value)(l:List Od)(sd:Int):Prop:=(sd=1/\∃b,v=eX b/\eh 197 true V b 1 (zv l 1))\/(¬ sd=1/\∃b,v=eZ b/\eh 200 false V b sd (zv l sd))
def FrV (V:World)(v:Value)(l:List Od)(sd:Int):Prop:=(sd=1/\∃b,v = .func (.func 164) #[I b 0] #[]/\eh 197 true V b 1 (zv l 1))\/(¬ sd=1/\∃b,v = .func (.func 168) #[I b 0] #[]/\eh 200 false V b sd (zv l sd))
theorem field0_bm (b:Nat)(W:World):Sem.run Tryz.prog (Instr.field 129 (eX b) 0) W = .ok (.func (.func 164) #[I b 0] #[]) W:=by kernel_rfl
theorem field0_sm (b:Nat)(W:World):Sem.run Tryz.prog (Instr.field 129 (eZ b) 0) W = .ok (.func (.func 168) #[I b 0] #[]) W:=by kernel_rfl
def DQ (mb b3:Nat)(base:World)(BV:Value)(s sd:Int)(l:List Od)(x:Od)(fb:Bool)(p:Prop)(V:World):Nat->Value->Prop
 | 0,v=>v=I mb 0
 | 1,v=>v=BV
 | 2,v=>v=I b3 0
 | 3,v=>v=H s
 | 4,v=>v=H sd
 | 5,v=>¬ p->SdV V v l sd
 | 6,v=>¬ p->FrV V v l sd
 | 7,v=>v = .tuple #[.agg (yw x.id x.side x.ticks x.left x.life x.tag).toArray,.bool fb]
 | 8,v=>v = .tuple #[.agg (yw x.id x.side x.ticks x.left x.life x.tag).toArray,.bool fb]
 | 9,v=>v = .agg (yw x.id x.side x.ticks x.left x.life x.tag).toArray
 | 10,v=>v = .bool fb
 | 11,v=>∃pb,v=I pb 0/\base.heap.size<=pb/\(¬ p->V.there pb 0 6/\pb<V.heap.size)/\(p->V.rangeAt pb 0 x.vs/\pb<V.heap.size)
 | 13,v=>v = .bool fb
 | _,_=>True
section
variable {mb b3:Nat} {base V V':World} {BV:Value} {s sd:Int} {l:List Od} {x:Od} {fb:Bool} {p:Prop}
theorem dq_grow (hp:¬ p)(E:yn V V'):∀j v,DQ mb b3 base BV s sd l x fb p V j v->DQ mb b3 base BV s sd l x fb p V' j v:=by
 intro j v h
 match j with
 | 0|1|2|3|4|7|8|9|10|13=>exact h
 | 5 =>
  intro hp;rcases h hp with⟨D,b,Y,h3⟩|⟨D,b,Y,h3⟩
  ·exact .inl ⟨D,b,Y,zx h3 (E.block _ (zL h3))⟩
  ·exact .inr ⟨D,b,Y,zx h3 (E.block _ (zL h3))⟩
 | 6 =>
  intro hp;rcases h hp with⟨D,b,Y,h3⟩|⟨D,b,Y,h3⟩
  ·exact .inl ⟨D,b,Y,zx h3 (E.block _ (zL h3))⟩
  ·exact .inr ⟨D,b,Y,zx h3 (E.block _ (zL h3))⟩
 | 11 =>
  obtain⟨pb,D,Y,h3,h4⟩:=h;refine⟨pb,D,Y,fun hp=>?_,fun h=>absurd h hp⟩;obtain⟨h5,h6⟩:=h3 hp;exact⟨zl h5 E h6,yK h6 E.size⟩
 | 12=>trivial
 | j+14=>trivial
theorem dq_last {v:Value}:∀j,j≠12->DQ mb b3 base BV s sd l x fb False V j v->(j=11->DQ mb b3 base BV s sd l x fb True V' 11 v)->DQ mb b3 base BV s sd l x fb True V' j v:=by
 intro j hj h jc
 match j with
 | 0|1|2|3|4|7|8|9|10|13=>exact h
 | 5=>exact fun hp=>absurd trivial hp
 | 6=>exact fun hp=>absurd trivial hp
 | 11=>exact jc rfl
 | 12=>trivial
 | j+14=>trivial
end
def backC:Nat->List Oper->Bool
 | _,[]=>true
 | i,o::r=>o.after.toList.all (fun e=>!Region.binds .any e||decide (e.on<i))&&backC (i+1) r
theorem backC_spec:∀(l:List Oper) (n:Nat),backC n l=true->∀(i:Nat) (o:Oper),l[i]? = some o->∀e∈o.after,Region.binds .any e=true->e.on<n+i
 | [],_,_,i,o,h,_,_,_=>by simp at h
 | a::r,n,E,0,o,h,e,he,aX=>by
  simp at h;subst h;simp only[backC,xf,List.all_eq_true] at E;have:=E.1 e (by simpa using he);rw[aX] at this;simpa using this
 | a::r,n,E,i+1,o,h,e,he,aX=>by
  simp only[backC,xf] at E;have:=backC_spec r (n+1) E.2 i o (by simpa using h) e he aX;omega
theorem fP {l:List Oper}{x:List Bool}(h:Region.ready .any l.toArray x.toArray = [])(hx:x.length=l.length)(E:backC 0 l=true):∀i,i<l.length->x[i]? = some true:=by
 intro i
 induction i using Nat.strongRecOn with
 | _ i ih =>
  intro hi;refine gp h hx i l[i] (yI hi) fun e he aX=>?_;have:=backC_spec l 0 E i l[i] (yI hi) e he aX;exact ih e.on (by omega) (by omega)
theorem match_any (next:Int)(vb:Value)(l:List Od)(c:Cm)(w:World)(hr:RdR Od.vs 6 w vb l)(hs:SlOk vb)(X:GoodL l)(h0:0<=next)(D:next<=1000000)(bx:0<=c.q)(pE:c.q<=1000000) :
  Calls Tryz.prog 210 #[.agg #[H next,vb],noV c] w fun e w'=>∃vq vt,e=ym (.agg #[H (next+1),vq,H next,H c.s,H (tk c.p),H (matL c next 21 l c.q []).2.1,H c.l,yk c.g,vt])/\ORow w' w.heap.size vq (matL c next 21 l c.q []).1/\ERow w' w.heap.size vt (matL c next 21 l c.q []).2.2/\yn w w':=by
 have HR:=Z hr;have HG:=Z X;have hsl:=hs;have HMI:=Z (mi_start (c:=c) (id:=next) X bx pE);have hn:=X.len;obtain⟨a,cap,rfl,xC,hc⟩:=hr;generalize hF:matL c next 21 l c.q []=cs at HMI |-;clear hF hc X hs;obtain⟨kk,s,ty,li,qt,ii,pr,tg⟩:=c;unfold noV;simp only at *;have xJ:=zf w (mq #[H next,.slice a l.length cap] 27);have ug:((w.alloc (mq #[H next,.slice a l.length cap] 27)).alloc (mq #[H s,H ty,H li,H qt,yj pr,yk tg] 63)).heap.size=w.heap.size+1+1:=by rw[zf,xJ]
 have oK:(((w.alloc (mq #[H next,.slice a l.length cap] 27)).alloc (mq #[H s,H ty,H li,H qt,yj pr,yk tg] 63)).alloc (mq #[H 0,.slice none 0 0,H 0,H 0,H 0,H 0,H 0,yk ⟨#[]⟩,.slice none 0 0] 259)).heap.size=w.heap.size+1+1+1:=by rw[zf,ug]
 have r1:=zm w [H next,.slice a l.length cap] 27;have r2:=zm (w.alloc (mq #[H next,.slice a l.length cap] 27)) [H s,H ty,H li,H qt,yj pr,yk tg] 63;rw[xJ] at r2;have t3:=zW ((w.alloc (mq #[H next,.slice a l.length cap] 27)).alloc (mq #[H s,H ty,H li,H qt,yj pr,yk tg] 63)) [H 0,.slice none 0 0,H 0,H 0,H 0,H 0,H 0,yk ⟨#[]⟩,.slice none 0 0] 259;rw[ug] at t3;have xI:Hid (yn w (((w.alloc (mq #[H next,.slice a l.length cap] 27)).alloc (mq #[H s,H ty,H li,H qt,yj pr,yk tg] 63)).alloc (mq #[H 0,.slice none 0 0,H 0,H 0,H 0,H 0,H 0,yk ⟨#[]⟩,.slice none 0 0] 259))):=((mn _ _).alloc (by rw[xJ];omega) _).alloc (by rw[ug];omega) _;have b23:Below (w.heap.size+1+1) ((w.alloc (mq #[H next,.slice a l.length cap] 27)).alloc (mq #[H s,H ty,H li,H qt,yj pr,yk tg] 63)) (((w.alloc (mq #[H next,.slice a l.length cap] 27)).alloc (mq #[H s,H ty,H li,H qt,yj pr,yk tg] 63)).alloc (mq #[H 0,.slice none 0 0,H 0,H 0,H 0,H 0,H 0,yk ⟨#[]⟩,.slice none 0 0] 259)):=(Below.refl _ _).alloc (by rw[ug];omega) _;have qH:Below (w.heap.size+1) (w.alloc (mq #[H next,.slice a l.length cap] 27)) ((w.alloc (mq #[H next,.slice a l.length cap] 27)).alloc (mq #[H s,H ty,H li,H qt,yj pr,yk tg] 63)):=(Below.refl _ _).alloc (by rw[xJ];omega) _;have HX:Hid (_/\_/\_):=⟨zc (zc r1 qH (by omega)) b23 (by omega),zc r2 b23 (by omega),t3⟩;have jT:=Z oK;clear xJ ug oK r1 r2 t3 b23 qH;go_enter Tryz.func210,Tryz.ntmps210
 go_wp2_with fail
 go_step3
 go_wp2_with fail;generalize (((w.alloc (mq #[H next,.slice a l.length cap] 27)).alloc (mq #[H s,H ty,H li,H qt,yj pr,yk tg] 63)).alloc (mq #[H 0,.slice none 0 0,H 0,H 0,H 0,H 0,H 0,yk ⟨#[]⟩,.slice none 0 0] 259))=W3 at xI HX jT |-;have HX:Hid (W3.rangeAt w.heap.size 0 [H next,.slice a l.length cap]/\W3.rangeAt (w.heap.size+1) 0 [H s,H ty,H li,H qt,yj pr,yk tg]/\W3.there (w.heap.size+1+1) 0 9):=U HX;have hw3:W3.heap.size=w.heap.size+1+1+1:=U jT;have aS:=Z (zi (U HR) (U xI) ya);refine zu (RG W3 (fun f=>{ tmps:=#[.agg #[H next,.slice a l.length cap],.agg #[H s,H ty,H li,H qt,yj pr,yk tg],yp w 0,I (w.heap.size+1) 0,I (w.heap.size+1+1) 0,f 7,M,M,f 0,f 1,f 2,f 3,f 4,f 5,f 6,M,M,M,M,M,M,M,M,M,M,M,M,M,M,M,M,M,M,M,M,M,M,M,M,M,M,M,M,M,M,M],defers:=[] }) 8 (DM w.heap.size W3.heap.size W3 next a cap l ⟨kk,s,ty,li,qt,ii,pr,tg⟩)) (by kernel_rfl) ?_ ?_ ?_
 ·exact⟨fun _=>M,rfl,⟨rfl,rfl,rfl,Nat.le_refl _,fun _ _=>rfl⟩,fun j hj=>by rw[yJ] at hj;split at hj <;> simp at hj⟩
 ·rintro x zb V ⟨f,rfl,xo,hD⟩ hx xS;have xq:=eE xS hx (acyc _ (by kernel_rfl));have k8:x[8]? = some true:=xq 8 (by simp);obtain⟨mb,g7,hmb,-,qv⟩:=hD 7 (xq 7 (by simp));obtain⟨a4,c4,hM⟩:=qv k8;have HM:=Z hM;have xK:=Z xo;have y0:V.cell? (J mb 0)=some (H next):=hM.cells 0 _ rfl;have f0:V.frozen? (J mb 0)=false:=by have:=(hM.there 0 (by omega)).2;rwa[Nat.zero_add] at this
  have pq:IntKind.i64.wrap (next+1)=next+1:=by rw[IntKind.wrap_i64];omega
  dsimp only;simp only[g7];generalize f 0=e0,f 1=e1,f 2=e2,f 3=e3,f 4=e4,f 5=e5,f 6=e6;clear hD xq xS hx k8 qv hM xo g7 x f;go_wp2_with fail
  go_step3
  go_wp2_with fail;have HMB:=Z hmb;clear hw3 hmb y0 f0;go_loopw [] (fun wr=>∃vq ll lf vt ts,Hid (MatS mb W3.heap.size wr (next+1) vq ll ⟨next,s,tk pr,lf,li,tg⟩ vt ts)/\Hid (MI ⟨kk,s,ty,li,qt,ii,pr,tg⟩ next cs ll lf ts)/\Hid (KeptBut mb W3.heap.size W3 wr)) (fun wr=>meas mb wr)
  case atStart=>exact⟨_,l,qt,_,[],matS_next (U HM) (next+1),U HMI,hJ (lG (U xK) ya) (kept_set V 0 _)⟩
  case round =>
   obtain⟨vq,ll,lf,vt,ts,hM,hI,hK⟩:=hrel;have y5:wr.cell? (J mb 5)=some (H lf):=(U hM).cells 5 _ rfl
   obtain⟨av,cv,rfl⟩:∃a c,vt = .slice a ts.length c:=by
    rcases(U hM).erow.2 with⟨e,e2⟩|⟨g,cap,xA,e,_⟩
    ·exact⟨none,0,by rw[e,e2]⟩
    ·exact⟨_,_,e⟩
   obtain⟨aq,cq,rfl⟩:∃a c,vq = .slice a ll.length c:=by
    rcases(U hM).orow.2 with⟨e,e2⟩|⟨g,cap,xA,e,_⟩
    ·exact⟨none,0,by rw[e,e2]⟩
    ·exact⟨_,_,e⟩
   by_cases bS:0<lf
   ·have qQ:=Z (U hI).good;have HLB:Hid (∀o'∈ll,0<=o'.left/\o'.left<=1000000):=fun o' vW=>by have:=(U qQ).left o' vW;omega
    have HRW:=Z (zI (U hM).orow (by have:=(U qQ).len;omega));generalize uX:othS s=sd;have cy:=Z uX;generalize hq:quOf (decide (sd=1)) (zv ll sd)=q;have oD:=frOf_eq q;generalize hx:hdO q=x at oD;generalize pB:hdF q=fb at oD;have HFR:Hid (frOf (quOf (decide (sd=1)) (zv ll sd)) = .tuple #[.agg (yw x.id x.side x.ticks x.left x.life x.tag).toArray,.bool fb]):=by show _ = _;rw[hq];exact oD
    have HFO:Hid (dZ ll (othS s)=if fb=true then some x else none):=by
     show _ = _;rw[dZ,uX,hq,<- hx,<- pB,hdO,hdF];cases q.head? <;> rfl
    clear uX hq oD hx pB q;have oK:=U jT;have hc3:∀j,wr.cell? (J (w.heap.size+1) j)=W3.cell? (J (w.heap.size+1) j):=fun j=>yR (a:=(J (w.heap.size+1) j)) ((U hK).block (w.heap.size+1) (by omega) (by have:=U HMB;omega));have aj:Hid (wr.rangeAt (w.heap.size+1) 0 [H s,H ty,H li,H qt,yj pr,yk tg]):=fun j u hj=>(hc3 _).trans ((U HX).2.1 j u hj);have hl3:w.heap.size+1<wr.heap.size:=by have:=(U hK).size;omega
    clear hc3 oK;go_wp2_with fail;refine zu (RG wr (fun f=>{ tmps:=#[.agg #[H next,.slice a l.length cap],.agg #[H s,H ty,H li,H qt,yj pr,yk tg],yp w 0,I (w.heap.size+1) 0,I (w.heap.size+1+1) 0,I mb 0,f 11,f 13,e0,e1,e2,e3,e4,e5,e6,I mb 0,I mb 0,H next,H (next+1),I mb 0,I mb 0,I mb 2,I mb 5,H lf,.bool true,f 8,f 0,f 1,f 2,f 3,f 4,f 5,f 6,f 7,f 9,f 10,u36,u37,u38,u39,u40,u41,u42,u43,u44,M],defers:=[] }) 12 (DQ mb (w.heap.size+1) wr (.agg #[H (next+1),.slice aq ll.length cq]) s sd ll x fb)) (by kernel_rfl) ?_ ?_ ?_
    ·exact⟨fun j=>if j=0 then u26 else if j=1 then u27 else if j=2 then u28 else if j=3 then u29 else if j=4 then u30 else if j=5 then u31 else if j=6 then u32 else if j=7 then u33 else if j=8 then u25 else if j=9 then u34 else if j=10 then u35 else if j=11 then u6 else if j=13 then u7 else M,rfl,⟨rfl,rfl,rfl,Nat.le_refl _,fun _ _=>rfl⟩,fun j hj=>by rw[yJ] at hj;split at hj <;> simp at hj⟩
    ·rintro xx zb hg ⟨f,rfl,xo,hD⟩ hx xS;have xq:=fP xS hx (by kernel_rfl);have k12:xx[12]? = some true:=xq 12 (by simp);have kI:f 13 = .bool fb:=hD 13 (xq 13 (by simp));obtain⟨pb,jB,hpb,-,qv⟩:=hD 11 (xq 11 (by simp));obtain⟨po,cU⟩:=qv k12;have xV:=Z (iW (U hM) xo);have jH:=Z (hJ (U hK) (lG xo (U hM).le));have o0:=zc (U aj) xo hl3 0 _ rfl;have o1:=zc (U aj) xo hl3 1 _ rfl;have o2:=zc (U aj) xo hl3 2 _ rfl;have o3:=zc (U aj) xo hl3 3 _ rfl;have o4:=zc (U aj) xo hl3 4 _ rfl;have o5:=zc (U aj) xo hl3 5 _ rfl;have dx:=Z po;obtain⟨p0,p1,p2,p3,p4,p5⟩:=zF po;simp only[Nat.zero_add] at o0 o1 o2 o3 o4 o5 p0 p1 p2 p3 p4 p5;dsimp only;simp only[kI,jB];generalize f 0=b0,f 1=b1,f 2=b2,f 3=b3,f 4=b4,f 5=b5,f 6=b6,f 7=b7,f 8=b8,f 9=b9,f 10=b10;clear hD xq xS hx k12 qv xo jB kI po hpb f xx y5;cases fb
     ·have HFE:Hid (cs=(ll,lf,ts)):=mi_none (U hI) (by have:=U HFO;simpa using this);clear o0 o1 o2 o3 o4 o5 p0 p1 p2 p3 p4 p5
      have ue:hg.there (w.heap.size+1+1) 0 9:=fun j hj=>by
       have E:=(U jH).block (w.heap.size+1+1) (by have:=U jT;omega) (by have:=U jT;have:=U HMB;omega);have:=(U HX).2.2 j hj;rw[yR (a:=(J (w.heap.size+1+1) (0+j))) E,World.frozen?_of_block (a:=(J (w.heap.size+1+1) (0+j))) E];exact this
      have xp:=Z (match_end (U xV) (U jH) (U xI) (U jT) (U HMB) [H (next+1),.slice aq ll.length cq,H next,H s,H (tk pr),H lf,H li,yk tg,.slice av ts.length cv] rfl ue);have c0:=(U xV).cells 0 _ rfl;have c1:=(U xV).cells 1 _ rfl;have c2:=(U xV).cells 2 _ rfl;have c3:=(U xV).cells 3 _ rfl;have c4:=(U xV).cells 4 _ rfl;have c5:=(U xV).cells 5 _ rfl;have c6:=(U xV).cells 6 _ rfl;have c7:=(U xV).cells 7 _ rfl;have c8:=(U xV).cells 8 _ rfl;simp only[Nat.zero_add] at c0 c1 c2 c3 c4 c5 c6 c7 c8;obtain⟨v0,z0,q0⟩:=zJ ue 0 (by omega);obtain⟨v1,z1,q1⟩:=zJ ue 1 (by omega);obtain⟨v2,z2,q2⟩:=zJ ue 2 (by omega);obtain⟨v3,z3,q3⟩:=zJ ue 3 (by omega);obtain⟨v4,z4,q4⟩:=zJ ue 4 (by omega);obtain⟨v5,z5,q5⟩:=zJ ue 5 (by omega);obtain⟨v6,z6,q6⟩:=zJ ue 6 (by omega);obtain⟨v7,z7,q7⟩:=zJ ue 7 (by omega);obtain⟨v8,z8,q8⟩:=zJ ue 8 (by omega);simp only[Nat.zero_add] at z0 q0 z1 q1 z2 q2 z3 q3 z4 q4 z5 q5 z6 q6 z7 q7 z8 q8;clear ue;go_wp2_with fail
      try simp +zetaDelta only[Exit.noGoto_ret]
      change bodyPost _ _ _ _ _ (hg.setCells (w.heap.size+1+1) 0 [H (next+1),.slice aq ll.length cq,H next,H s,H (tk pr),H lf,H li,yk tg,.slice av ts.length cv]);generalize hg.setCells (w.heap.size+1+1) 0 [H (next+1),.slice aq ll.length cq,H next,H s,H (tk pr),H lf,H li,yk tg,.slice av ts.length cv]=WE at xp |-;obtain⟨d0,d1,d2,d3,d4,d5,d6,d7,d8⟩:=yF (U xp).1
      try simp only[Exit.inBlock,Exit.then]
      refine bodyPost_ret (by simp[results,Tryz.results210,go_sem,d0,d1,d2,d3,d4,d5,d6,d7,d8];try rfl) rfl ?_
      rw[U HFE];exact⟨_,_,rfl,(U xp).2.1,(U xp).2.2.1,(U xp).2.2.2⟩
     ·have HFO:Hid (dZ ll (othS s)=some x):=by show _ = _;have:=U HFO;simpa using this
      go_wp2_with fail;refine(meets_any ⟨kk,s,ty,li,qt,ii,pr,tg⟩ x hg).mono ?_;rintro e w5 ⟨rfl,uc⟩;have uS:=Z (iW (U xV) uc);have HK5:=Z (hJ (U jH) (lG uc (U xV).le));obtain⟨s0,s1,s2,s3,s4,s5⟩:=zF (zc (U dx) uc cU);simp only[Nat.zero_add] at s0 s1 s2 s3 s4 s5;clear o0 o1 o2 o3 o4 o5 p0 p1 p2 p3 p4 p5 uc;cases hme:eB ⟨kk,s,ty,li,qt,ii,pr,tg⟩ x
      ·have HFE:Hid (cs=(ll,lf,ts)):=mi_stop (U hI) (U HFO) hme;clear s0 s1 s2 s3 s4 s5 hme
       have ue:w5.there (w.heap.size+1+1) 0 9:=fun j hj=>by
        have E:=(U HK5).block (w.heap.size+1+1) (by have:=U jT;omega) (by have:=U jT;have:=U HMB;omega);have:=(U HX).2.2 j hj;rw[yR (a:=(J (w.heap.size+1+1) (0+j))) E,World.frozen?_of_block (a:=(J (w.heap.size+1+1) (0+j))) E];exact this
       have xp:=Z (match_end (U uS) (U HK5) (U xI) (U jT) (U HMB) [H (next+1),.slice aq ll.length cq,H next,H s,H (tk pr),H lf,H li,yk tg,.slice av ts.length cv] rfl ue);have c0:=(U uS).cells 0 _ rfl;have c1:=(U uS).cells 1 _ rfl;have c2:=(U uS).cells 2 _ rfl;have c3:=(U uS).cells 3 _ rfl;have c4:=(U uS).cells 4 _ rfl;have c5:=(U uS).cells 5 _ rfl;have c6:=(U uS).cells 6 _ rfl;have c7:=(U uS).cells 7 _ rfl;have c8:=(U uS).cells 8 _ rfl;simp only[Nat.zero_add] at c0 c1 c2 c3 c4 c5 c6 c7 c8;obtain⟨v0,z0,q0⟩:=zJ ue 0 (by omega);obtain⟨v1,z1,q1⟩:=zJ ue 1 (by omega);obtain⟨v2,z2,q2⟩:=zJ ue 2 (by omega);obtain⟨v3,z3,q3⟩:=zJ ue 3 (by omega);obtain⟨v4,z4,q4⟩:=zJ ue 4 (by omega);obtain⟨v5,z5,q5⟩:=zJ ue 5 (by omega);obtain⟨v6,z6,q6⟩:=zJ ue 6 (by omega);obtain⟨v7,z7,q7⟩:=zJ ue 7 (by omega);obtain⟨v8,z8,q8⟩:=zJ ue 8 (by omega);simp only[Nat.zero_add] at z0 q0 z1 q1 z2 q2 z3 q3 z4 q4 z5 q5 z6 q6 z7 q7 z8 q8;clear ue;go_wp2_with fail
       try simp +zetaDelta only[Exit.noGoto_ret]
       change bodyPost _ _ _ _ _ (w5.setCells (w.heap.size+1+1) 0 [H (next+1),.slice aq ll.length cq,H next,H s,H (tk pr),H lf,H li,yk tg,.slice av ts.length cv]);generalize w5.setCells (w.heap.size+1+1) 0 [H (next+1),.slice aq ll.length cq,H next,H s,H (tk pr),H lf,H li,yk tg,.slice av ts.length cv]=WE at xp |-;obtain⟨d0,d1,d2,d3,d4,d5,d6,d7,d8⟩:=yF (U xp).1
       try simp only[Exit.inBlock,Exit.then]
       refine bodyPost_ret (by simp[results,Tryz.results210,go_sem,d0,d1,d2,d3,d4,d5,d6,d7,d8];try rfl) rfl ?_
       rw[U HFE];exact⟨_,_,rfl,(U xp).2.1,(U xp).2.2.1,(U xp).2.2.2⟩
      ·obtain⟨k,uA,hkk,hI6,hms⟩:=mi_step (U hI) bS (U HFO) hme;have hxm:=(U qQ).left x (yP hkk);have uP:Hid (_/\_/\_/\_):=⟨uA,hkk,hI6,hms⟩;have hl1:=(U hI).l1;have hl20:=(U qQ).len;have hfew:=(U hI).few;have vK:Hid (0<=lf/\lf<=1000000/\0<=x.left/\x.left<=1000000/\ll.length<=1000/\ts.length<=1000):=⟨by omega,by omega,by omega,by omega,by omega,by omega⟩;clear uA hkk hI6 hms hme hxm hl1 hl20 hfew;go_wp2_with fail;refine(trade_any mb W3.heap.size (next+1) _ ll ⟨next,s,tk pr,lf,li,tg⟩ _ ts x k w5 (U uS) (U uP).1 (U uP).2.1 (U vK).2.2.2.2.1 (U vK).2.2.2.2.2 (U vK).1 (U vK).2.1 (U vK).2.2.1 (U vK).2.2.2.1 _ rfl).mono ?_;rintro e w6 ⟨uB,vt',rfl,hM6,hK6⟩;have HM6:=Z hM6;have HK6:=Z hK6;clear hM6 hK6 s0 s1 s2 s3 s4 s5;go_wp2_with fail;dsimp only[H,I,J];go_roundw
       case rel=>exact⟨uB,_,_,vt',_,U HM6,(U uP).2.2.1,hJ (U HK5) (U HK6)⟩
       case measure =>
        rw[meas_eq (U HM6),meas_eq (U hM)];have:=(U uP).2.2.2;simp only[if_pos bS];exact this
    ·rintro xx zb hg i op ⟨f,rfl,xo,hD⟩ xn hx Q xu R
     have n12':i≠10->i<12->¬ xx[12]? = some true:=fun xr xM vT=>by
      have jc:=yf xn 12 rfl vT 11 rfl;have h9:=yf xn 12 rfl vT 9 rfl;have h8:=yf xn 9 rfl h9 8 rfl;have h7:=yf xn 8 rfl h8 7 rfl;have h6:=yf xn 7 rfl h7 6 rfl;have h5:=yf xn 6 rfl h6 5 rfl;have D:=yf xn 5 rfl h5 1 rfl;have h4:=yf xn 5 rfl h5 4 rfl;have h0:=yf xn 1 rfl D 0 rfl;have h3:=yf xn 4 rfl h4 3 rfl;have Y:=yf xn 3 rfl h3 2 rfl
      have vU:∀j,j≠10->j<12->xx[j]? = some true:=fun j cR hj=>by
       rcases(by omega:j=0\/j=1\/j=2\/j=3\/j=4\/j=5\/j=6\/j=7\/j=8\/j=9\/j=11) with rfl|rfl|rfl|rfl|rfl|rfl|rfl|rfl|rfl|rfl|rfl <;> assumption
      rw[vU i xr xM] at xu;cases xu
     clear xn y5;have qk:=Z xo;have HD:=Z hD;have qX:=Z (zi (U HRW) xo ya);have z0:=zc (U hM).cells xo (U hM).lt 0 _ rfl;have z1:=zc (U hM).cells xo (U hM).lt 1 _ rfl;have o0:=zc (U aj) xo hl3 0 _ rfl;rw[Nat.zero_add] at z0 z1 o0
     match i,Q with
    | 0,Q =>
     cases Q;clear R hD xo;go_simp;exact⟨upd f 0 (I mb 0),by simp[upd],zG (U qk) (U HD) (by decide) rfl⟩
    | 1,Q =>
     cases Q;have g:f 0=I mb 0:=hD 0 (ye R 0 rfl);clear R hD xo;go_simp;exact⟨upd f 1 (.agg #[H (next+1),.slice aq ll.length cq]),by simp[upd,g],zG (U qk) (U HD) (by decide) rfl⟩
    | 2,Q =>
     cases Q;clear R hD xo;go_simp;exact⟨upd f 2 (I (w.heap.size+1) 0),by simp[upd],zG (U qk) (U HD) (by decide) rfl⟩
    | 3,Q =>
     cases Q;have g:f 2=I (w.heap.size+1) 0:=hD 2 (ye R 2 rfl);clear R hD xo;go_simp;exact⟨upd f 3 (H s),by simp[upd,g],zG (U qk) (U HD) (by decide) rfl⟩
    | 4,Q =>
     cases Q;have g:f 3=H s:=hD 3 (ye R 3 rfl);clear R hD xo;go_simp;refine(otherSide_any s hg).mono ?_;rw[U cy];rintro e w4 ⟨rfl,rfl⟩;exact⟨upd f 4 (H sd),by simp[upd,g],zG (U qk) (U HD) (by decide) rfl⟩
    | 5,Q =>
     cases Q;have g1:f 1 = .agg #[H (next+1),.slice aq ll.length cq]:=hD 1 (ye R 1 rfl);have g4:f 4=H sd:=hD 4 (ye R 4 rfl);have df:=n12' (by omega) (by omega);clear R hD xo;go_simp
     by_cases uX:sd=1
     ·subst uX;refine(lM (next+1) _ ll hg (U qX) (U qQ).len (U HLB)).mono ?_;rintro e w4 ⟨b,rfl,ht,qS,xy⟩;exact⟨upd f 5 (eX b),by simp[upd,g1,g4],fG (U qk) (U HD) xy (by decide) (dq_grow df xy) (fun _=>.inl ⟨rfl,b,rfl,ht⟩)⟩
     ·refine(lA (next+1) sd uX _ ll hg (U qX) (U qQ).len (U HLB)).mono ?_;rintro e w4 ⟨b,rfl,ht,qS,xy⟩;exact⟨upd f 5 (eZ b),by simp[upd,g1,g4],fG (U qk) (U HD) xy (by decide) (dq_grow df xy) (fun _=>.inr ⟨uX,b,rfl,ht⟩)⟩
    | 6,Q =>
     cases Q;have df:=n12' (by omega) (by omega);rcases hD 5 (ye R 5 rfl) df with⟨uX,b,g5,ht⟩|⟨uX,b,g5,ht⟩
     ·subst uX;have HT:=Z ht;have cO:=field0_bm b hg;clear R hD xo ht;go_simp;exact⟨upd f 6 (.func (.func 164) #[I b 0] #[]),by simp[upd,g5],zG (U qk) (U HD) (by decide) (fun _=>.inl ⟨rfl,b,rfl,U HT⟩)⟩
     ·have HT:=Z ht;have cO:=field0_sm b hg;clear R hD xo ht;go_simp;exact⟨upd f 6 (.func (.func 168) #[I b 0] #[]),by simp[upd,g5],zG (U qk) (U HD) (by decide) (fun _=>.inr ⟨uX,b,rfl,U HT⟩)⟩
    | 7,Q =>
     cases Q;have df:=n12' (by omega) (by omega);rcases hD 6 (ye R 6 rfl) df with⟨uX,b,g6,ht⟩|⟨uX,b,g6,ht⟩
     ·subst uX;have HT:=Z ht
      have HE:Hid (frOf (quOf true (zv ll 1)) = .tuple #[.agg (yw x.id x.side x.ticks x.left x.life x.tag).toArray,.bool fb]):=by
       show _ = _;have:=U HFR;simpa using this
      clear R hD xo ht;go_simp;refine(front_b b 1 (zv ll 1) hg (U HT) (yO (List.length_filter_le _ _) (U qQ).len)).mono ?_;rw[U HE];rintro e w4 ⟨rfl,xy⟩;exact⟨upd f 7 (.tuple #[.agg (yw x.id x.side x.ticks x.left x.life x.tag).toArray,.bool fb]),by simp[upd,g6],fG (U qk) (U HD) xy (by decide) (dq_grow df xy) rfl⟩
     ·have HT:=Z ht
      have HE:Hid (frOf (quOf false (zv ll sd)) = .tuple #[.agg (yw x.id x.side x.ticks x.left x.life x.tag).toArray,.bool fb]):=by
       have:=U HFR;rw[decide_eq_false uX] at this;exact this
      clear R hD xo ht;go_simp;refine(front_s b sd (zv ll sd) hg (U HT) (yO (List.length_filter_le _ _) (U qQ).len)).mono ?_;rw[U HE];rintro e w4 ⟨rfl,xy⟩;exact⟨upd f 7 (.tuple #[.agg (yw x.id x.side x.ticks x.left x.life x.tag).toArray,.bool fb]),by simp[upd,g6],fG (U qk) (U HD) xy (by decide) (dq_grow df xy) rfl⟩
    | 8,Q =>
     cases Q;have g:f 7 = .tuple #[.agg (yw x.id x.side x.ticks x.left x.life x.tag).toArray,.bool fb]:=hD 7 (ye R 7 rfl);clear R hD xo;go_simp;exact⟨upd f 8 (.tuple #[.agg (yw x.id x.side x.ticks x.left x.life x.tag).toArray,.bool fb]),by simp[upd,g],zG (U qk) (U HD) (by decide) rfl⟩
    | 9,Q =>
     cases Q;have g:f 8 = .tuple #[.agg (yw x.id x.side x.ticks x.left x.life x.tag).toArray,.bool fb]:=hD 8 (ye R 8 rfl);clear R hD xo;go_simp;exact⟨upd f 9 (.agg (yw x.id x.side x.ticks x.left x.life x.tag).toArray),by simp[upd,g],zG (U qk) (U HD) (by decide) rfl⟩
    | 10,Q =>
     cases Q;have g:f 8 = .tuple #[.agg (yw x.id x.side x.ticks x.left x.life x.tag).toArray,.bool fb]:=hD 8 (ye R 8 rfl);clear R hD xo;go_simp;exact⟨upd f 10 (.bool fb),by simp[upd,g],zG (U qk) (U HD) (by decide) rfl⟩
    | 11,Q =>
     cases Q;have df:=n12' (by omega) (by omega);clear R hD xo;go_simp;have xy:=mn hg (mq (yw 0 0 0 0 0 ⟨#[]⟩).toArray 65);exact⟨upd f 11 (yp hg 0),by simp[upd],fG (U qk) (U HD) xy (by decide) (dq_grow df xy) ⟨hg.heap.size,rfl,(U qk).size,fun _=>⟨zW hg (yw 0 0 0 0 0 ⟨#[]⟩) _,by rw[zf];omega⟩,fun h=>absurd h df⟩⟩
    | 12,Q =>
     cases Q;have df:¬ xx[12]? = some true:=by rw[xu];simp
     have g9:f 9 = .agg (yw x.id x.side x.ticks x.left x.life x.tag).toArray:=hD 9 (ye R 9 rfl);obtain⟨pb,jB,hpb,ue,-⟩:=hD 11 (ye R 11 rfl);obtain⟨ue,cU⟩:=ue df;have cA:=Z ue;obtain⟨u0,y0,q0⟩:=zJ ue 0 (by omega);obtain⟨u1,y1,q1⟩:=zJ ue 1 (by omega);obtain⟨u2,y2,q2⟩:=zJ ue 2 (by omega);obtain⟨u3,y3,q3⟩:=zJ ue 3 (by omega);obtain⟨u4,y4,q4⟩:=zJ ue 4 (by omega);obtain⟨u5,y5,q5⟩:=zJ ue 5 (by omega);simp only[Nat.zero_add] at y0 q0 y1 q1 y2 q2 y3 q3 y4 q4 y5 q5;clear R hD xo ue;go_simp;refine⟨upd f 12 M,by simp[upd,g9,jB],rgx_last (zh pb hpb (yw x.id x.side x.ticks x.left x.life x.tag) 0 hg (U qk)) (U HD) xu (fun j hj hxj h=>dq_last j hj h (fun hj11=>?_)) trivial⟩;subst hj11;refine⟨pb,jB,hpb,fun h=>absurd trivial h,fun _=>⟨?_,?_⟩⟩
     ·exact yY hg pb 0 (yw x.id x.side x.ticks x.left x.life x.tag) (fun j hj=>U cA j hj)
     ·show pb<(hg.setCells pb 0 (yw x.id x.side x.ticks x.left x.life x.tag)).heap.size;simp only[World.setCells,World.setCell,Array.size_modify];exact cU
    | 13,Q =>
     cases Q;have g:f 10 = .bool fb:=hD 10 (ye R 10 rfl);clear R hD xo;go_simp;exact⟨upd f 13 (.bool fb),by simp[upd,g],zG (U qk) (U HD) (by decide) rfl⟩
    | i+14,Q=>simp at Q
   ·have HFE:Hid (cs=(ll,lf,ts)):=mi_done (U hI) bS
    have ue:wr.there (w.heap.size+1+1) 0 9:=fun j hj=>by
     have E:=(U hK).block (w.heap.size+1+1) (by have:=U jT;omega) (by have:=U jT;have:=U HMB;omega);have:=(U HX).2.2 j hj;rw[yR (a:=(J (w.heap.size+1+1) (0+j))) E,World.frozen?_of_block (a:=(J (w.heap.size+1+1) (0+j))) E];exact this
    have xp:=Z (match_end (U hM) (U hK) (U xI) (U jT) (U HMB) [H (next+1),.slice aq ll.length cq,H next,H s,H (tk pr),H lf,H li,yk tg,.slice av ts.length cv] rfl ue);have c0:=(U hM).cells 0 _ rfl;have c1:=(U hM).cells 1 _ rfl;have c2:=(U hM).cells 2 _ rfl;have c3:=(U hM).cells 3 _ rfl;have c4:=(U hM).cells 4 _ rfl;have c5:=(U hM).cells 5 _ rfl;have c6:=(U hM).cells 6 _ rfl;have c7:=(U hM).cells 7 _ rfl;have c8:=(U hM).cells 8 _ rfl;simp only[Nat.zero_add] at c0 c1 c2 c3 c4 c5 c6 c7 c8;obtain⟨v0,z0,q0⟩:=zJ ue 0 (by omega);obtain⟨v1,z1,q1⟩:=zJ ue 1 (by omega);obtain⟨v2,z2,q2⟩:=zJ ue 2 (by omega);obtain⟨v3,z3,q3⟩:=zJ ue 3 (by omega);obtain⟨v4,z4,q4⟩:=zJ ue 4 (by omega);obtain⟨v5,z5,q5⟩:=zJ ue 5 (by omega);obtain⟨v6,z6,q6⟩:=zJ ue 6 (by omega);obtain⟨v7,z7,q7⟩:=zJ ue 7 (by omega);obtain⟨v8,z8,q8⟩:=zJ ue 8 (by omega);simp only[Nat.zero_add] at z0 q0 z1 q1 z2 q2 z3 q3 z4 q4 z5 q5 z6 q6 z7 q7 z8 q8;clear ue;go_wp2_with fail
    try simp +zetaDelta only[Exit.noGoto_ret]
    change bodyPost _ _ _ _ _ (wr.setCells (w.heap.size+1+1) 0 [H (next+1),.slice aq ll.length cq,H next,H s,H (tk pr),H lf,H li,yk tg,.slice av ts.length cv]);generalize wr.setCells (w.heap.size+1+1) 0 [H (next+1),.slice aq ll.length cq,H next,H s,H (tk pr),H lf,H li,yk tg,.slice av ts.length cv]=WE at xp |-;obtain⟨d0,d1,d2,d3,d4,d5,d6,d7,d8⟩:=yF (U xp).1
    try simp only[Exit.inBlock,Exit.then]
    refine bodyPost_ret (by simp[results,Tryz.results210,go_sem,d0,d1,d2,d3,d4,d5,d6,d7,d8];try rfl) rfl ?_
    rw[U HFE];exact⟨_,_,rfl,(U xp).2.1,(U xp).2.2.1,(U xp).2.2.2⟩
 ·rintro x zb V i op ⟨f,rfl,xo,hD⟩ xn hx Q xu R
  have n8':i<8->¬ x[8]? = some true:=fun xM h8=>by
   have h7:=yf xn 8 rfl h8 7 rfl;have h6:=yf xn 8 rfl h8 6 rfl;have h5:=yf xn 6 rfl h6 5 rfl;have D:=yf xn 6 rfl h6 1 rfl;have h0:=yf xn 1 rfl D 0 rfl;have Y:=yf xn 5 rfl h5 2 rfl;have h4:=yf xn 5 rfl h5 4 rfl;have h3:=yf xn 4 rfl h4 3 rfl
   have vU:∀j,j<8->x[j]? = some true:=fun j hj=>by
    rcases(by omega:j=0\/j=1\/j=2\/j=3\/j=4\/j=5\/j=6\/j=7) with rfl|rfl|rfl|rfl|rfl|rfl|rfl|rfl <;> assumption
   rw[vU i xM] at xu;cases xu
  clear xn;have xK:=Z xo;have HD:=Z hD;have vn:=Z (zi (U aS) xo ya);have z0:=zc (U HX).1 xo (by omega) 0 _ rfl;have z1:=zc (U HX).1 xo (by omega) 1 _ rfl;have o0:=zc (U HX).2.1 xo (by omega) 0 _ rfl;have o1:=zc (U HX).2.1 xo (by omega) 1 _ rfl;have o2:=zc (U HX).2.1 xo (by omega) 2 _ rfl;have o3:=zc (U HX).2.1 xo (by omega) 3 _ rfl;have o4:=zc (U HX).2.1 xo (by omega) 4 _ rfl;have o5:=zc (U HX).2.1 xo (by omega) 5 _ rfl;rw[Nat.zero_add] at z0 z1 o0 o1 o2 o3 o4 o5;clear hw3
  match i,Q with
  | 0,Q =>
   cases Q;clear R hD xo;go_simp;exact⟨upd f 0 (.agg #[H next,.slice a l.length cap]),by simp[upd],zG (U xK) (U HD) (by decide) rfl⟩
  | 1,Q =>
   cases Q;have g:f 0 = .agg #[H next,.slice a l.length cap]:=hD 0 (ye R 0 rfl);have n8:=n8' (by omega);clear R hD xo;go_simp;refine(copyBook_any next _ l V (U vn) hsl (by omega)).mono ?_;rintro e w4 ⟨v4,rfl,dN,xy⟩;obtain⟨a4,c4,rfl⟩:=gf (zI dN (by omega));exact⟨upd f 1 (.agg #[H next,.slice a4 l.length c4]),by simp[upd,g],fG (U xK) (U HD) xy (by decide) (dm_grow n8 xy) ⟨a4,c4,rfl,fun _=>zU dN (U xK).size⟩⟩
  | 2,Q =>
   cases Q;clear R hD xo;go_simp;exact⟨upd f 2 (.agg #[H s,H ty,H li,H qt,yj pr,yk tg]),by simp[upd],zG (U xK) (U HD) (by decide) rfl⟩
  | 3,Q =>
   cases Q;clear R hD xo;go_simp;exact⟨upd f 3 (yp w 0),by simp[upd],zG (U xK) (U HD) (by decide) rfl⟩
  | 4,Q =>
   cases Q;have g:f 3=yp w 0:=hD 3 (ye R 3 rfl);clear R hD xo;go_simp;exact⟨upd f 4 (H next),by simp[upd,g],zG (U xK) (U HD) (by decide) rfl⟩
  | 5,Q =>
   cases Q;have g2:f 2 = .agg #[H s,H ty,H li,H qt,yj pr,yk tg]:=hD 2 (ye R 2 rfl);have g4:f 4=H next:=hD 4 (ye R 4 rfl);have n8:=n8' (by omega);clear R hD xo;go_simp;refine(order_any ⟨kk,s,ty,li,qt,ii,pr,tg⟩ next V).mono ?_;rintro e w4 ⟨rfl,xy⟩;exact⟨upd f 5 (.agg (yw next s (tk pr) qt li tg).toArray),by simp[upd,g2,g4],fG (U xK) (U HD) xy (by decide) (dm_grow n8 xy) rfl⟩
  | 6,Q =>
   cases Q;obtain⟨a4,c4,g1,oF⟩:=hD 1 (ye R 1 rfl);have g5:f 5 = .agg (yw next s (tk pr) qt li tg).toArray:=hD 5 (ye R 5 rfl);have jI:=Z oF;clear R hD xo oF;go_simp;exact⟨upd f 6 (.agg #[H next,.slice a4 l.length c4,H next,H s,H (tk pr),H qt,H li,yk tg,.slice none 0 0]),by simp[upd,g1,g5],zG (U xK) (U HD) (by decide) ⟨a4,c4,rfl,U jI⟩⟩
  | 7,Q =>
   cases Q;have n8:=n8' (by omega);clear R hD xo;go_simp;have xy:=mn V (mq #[H 0,.slice none 0 0,H 0,H 0,H 0,H 0,H 0,yk ⟨#[]⟩,.slice none 0 0] 259);exact⟨upd f 7 (yp V 0),by simp[upd],fG (U xK) (U HD) xy (by decide) (dm_grow n8 xy) ⟨V.heap.size,rfl,(U xK).size,fun _=>⟨zW V [H 0,.slice none 0 0,H 0,H 0,H 0,H 0,H 0,yk ⟨#[]⟩,.slice none 0 0] _,_,heap_alloc_new V _⟩,fun h=>absurd h n8⟩⟩
  | 8,Q =>
   cases Q;have n8:¬ x[8]? = some true:=by rw[xu];simp
   obtain⟨a4,c4,g6,ho6⟩:=hD 6 (ye R 6 rfl);obtain⟨mb,g7,hmb,ue,-⟩:=hD 7 (ye R 7 rfl);obtain⟨ue,jM⟩:=ue n8;have HO6:=Z (ho6 n8);have cA:=Z ue;have qk:=Z jM;obtain⟨u0,y0,q0⟩:=zJ ue 0 (by omega);obtain⟨u1,y1,q1⟩:=zJ ue 1 (by omega);obtain⟨u2,y2,q2⟩:=zJ ue 2 (by omega);obtain⟨u3,y3,q3⟩:=zJ ue 3 (by omega);obtain⟨u4,y4,q4⟩:=zJ ue 4 (by omega);obtain⟨u5,y5,q5⟩:=zJ ue 5 (by omega);obtain⟨u6,y6,q6⟩:=zJ ue 6 (by omega);obtain⟨u7,y7,q7⟩:=zJ ue 7 (by omega);obtain⟨u8,y8,q8⟩:=zJ ue 8 (by omega);simp only[Nat.zero_add] at y0 q0 y1 q1 y2 q2 y3 q3 y4 q4 y5 q5 y6 q6 y7 q7 y8 q8;clear R hD xo ho6 ue jM;go_simp;refine⟨upd f 8 M,by simp[upd,g6,g7],rgx_last (zh mb hmb [H next,.slice a4 l.length c4,H next,H s,H (tk pr),H qt,H li,yk tg,.slice none 0 0] 0 V (U xK)) (U HD) xu (fun j hj hxj h=>dm_last j hj h (fun hj7=>?_)) trivial⟩;subst hj7;refine⟨mb,g7,hmb,fun h=>absurd trivial h,fun _=>⟨a4,c4,?_⟩⟩;exact matS_made (c:=⟨kk,s,ty,li,qt,ii,pr,tg⟩) (U cA) (U qk) (U HO6) (by have:=(U xK).size;omega)
  | i+9,Q=>simp at Q
def dV (e:Ev):Cm:=if e.kind=1 then e.cmd else if e.kind=2 then e.cmd else if e.kind=6 then⟨2,0,0,0,0,e.id,0,⟨#[]⟩⟩ else if e.kind=7 then⟨3,0,0,0,e.qty,e.id,0,⟨#[]⟩⟩ else if e.kind=8 then⟨4,0,0,0,0,0,0,⟨#[]⟩⟩ else zCm
def zX (k:Int):Bool:=(k==1)||((k==2)||((k==6)||((k==7)||(k==8))))
def idR (l:List Od)(id:Int):Int:=if plc l id<0 then 9 else 0
def redR (l:List Od)(id qty:Int):Int:=if betB qty 1 1000000=true then(if plc l id<0 then 9 else match l[(plc l id).toNat]? with|some o=>if o.left<=qty then 10 else 0|none=>0) else 7
theorem lq (l:List Od)(id:Int):plc l id = -1 \/ ∃(k:Nat) (o:Od),plc l id=k/\l[k]? = some o:=by
 rcases plcF_spec id l 0 with⟨D,_⟩|⟨i,o,D,Y,_⟩
 ·exact .inl D
 ·exact .inr ⟨i,o,by rw[plc,D];congr 1;omega,Y⟩
theorem idRefusal_any (next:Int)(v:Value)(l:List Od)(id:Int)(w:World)(hr:RdR Od.vs 6 w v l) :
  Calls Tryz.prog 187 #[.agg #[H next,v],H id] w fun e w'=>e=ym (H (idR l id))/\yn w w':=by
 have HR:=Z hr;obtain⟨a,cap,rfl,xC,hc⟩:=hr;have ud:Hid (yn w (w.alloc (mq #[H next,.slice a l.length cap] 27))):=mn _ _;clear hc;go_enter Tryz.func187,Tryz.ntmps187;go_wp2_with fail;refine(iT next _ l id _ (zi (U HR) (U ud) ya)).mono ?_;rintro e w3 ⟨rfl,xL⟩;have xI:=Z (mr (U ud) xL);clear xL
 by_cases hp:plc l id<0
 ·have HK:Hid (idR l id=9):=if_pos hp;go_wp2_with fail;go_ret;exact⟨zB (U HK).symm,U xI⟩
 ·have HK:Hid (idR l id=0):=if_neg hp;go_wp2_with fail;go_ret;exact⟨zB (U HK).symm,U xI⟩
theorem iI {c:Cm}{id:Int}:∀(n:Nat) (l:List Od) (left:Int) (ts:List Ev),GoodL l->0<=left->left<=1000000->GoodL (matL c id n l left ts).1/\0<=(matL c id n l left ts).2.1/\(matL c id n l left ts).2.1<=1000000
 | 0,l,left,ts,h,h0,D=>⟨h,h0,D⟩
 | n+1,l,left,ts,h,h0,D=>by
  rw[matL]
  by_cases hl:0<left
  ·rw[if_pos hl];cases hf:dZ l (othS c.s) with
   | none=>exact⟨h,h0,D⟩
   | some o =>
    simp only
    by_cases hm:eB c o=true
    ·rw[if_pos hm];obtain⟨vr,_⟩:=gJ hf;obtain⟨k,hk⟩:=List.getElem?_of_mem vr;have Q:=h.left o vr;rw[fU h.rise hk,Int.toNat_natCast];exact iI n _ _ _ (gN h hk (by omega) (by omega)).1 (by omega) (by omega)
    ·rw[if_neg hm];exact⟨h,h0,D⟩
  ·rw[if_neg hl];exact⟨h,h0,D⟩
def matR (next:Int)(c:Cm)(cs:List Od × Int × List Ev):Int:=
 if c.t=5/\0<cs.2.2.length then 11 else if c.t=4/\0<cs.2.1 then 12 else if next=1000000 then 13
 else if dT c.t=true/\0<cs.2.1 then(if fullB (cs.1 ++ [{ ordO c next with left:=cs.2.1 }])=true then 13 else 0) else 0
theorem below_kept {B0 B mb:Nat}{w W W':World}(h:Below B0 w W)(hk:KeptBut mb B W W')(hB:B0<=B)(hm:B<=mb):Below B0 w W':=
 ⟨hk.os.trans h.os,hk.tape.trans h.tape,hk.output.trans h.output,yO h.size hk.size,fun k xM=>(hk.block k (by omega) (by omega)).trans (h.block k xM)⟩
theorem md (next:Int)(vb:Value)(l:List Od)(c:Cm)(w:World)(hr:RdR Od.vs 6 w vb l)(hs:SlOk vb)(X:GoodL l)(h0:0<=next)(D:next<=1000000)(bx:0<=c.q)(pE:c.q<=1000000) :
  Calls Tryz.prog 206 #[.agg #[H next,vb],noV c] w fun e w'=>e=ym (H (matR next c (matL c next 21 l c.q [])))/\yn w w':=by
 have HR:=Z hr;have HG:=Z X;have jg:=Z hs;have HFG:=Z (iI (c:=c) (id:=next) 21 l c.q [] X bx pE);have vK:Hid (0<=next/\next<=1000000/\0<=c.q/\c.q<=1000000):=⟨h0,D,bx,pE⟩;obtain⟨a,cap,rfl,xC,hc⟩:=hr;clear hc X hs h0 D bx pE xC;obtain⟨kk,s,ty,li,qt,ii,pr,tg⟩:=c;have HCA:Hid (∀W:World,RdR Od.vs 6 W (.slice a l.length cap) l->Calls Tryz.prog 210 #[.agg #[H next,.slice a l.length cap],.agg #[H s,H ty,H li,H qt,yj pr,yk tg]] W _):=fun W hW=>match_any next _ l ⟨kk,s,ty,li,qt,ii,pr,tg⟩ W hW (U jg) (U HG) (U vK).1 (U vK).2.1 (U vK).2.2.1 (U vK).2.2.2
 generalize matL ⟨kk,s,ty,li,qt,ii,pr,tg⟩ next 21 l qt []=cs at HFG HCA |-;obtain⟨FL,Fl,Ft⟩:=cs;unfold noV;simp only at *;have xJ:=zf w (mq #[H next,.slice a l.length cap] 27);have ug:((w.alloc (mq #[H next,.slice a l.length cap] 27)).alloc (mq #[H s,H ty,H li,H qt,yj pr,yk tg] 63)).heap.size=w.heap.size+1+1:=by rw[zf,xJ]
 have r1:=zm w [H next,.slice a l.length cap] 27;have r2:=zm (w.alloc (mq #[H next,.slice a l.length cap] 27)) [H s,H ty,H li,H qt,yj pr,yk tg] 63;rw[xJ] at r2;have qH:Below (w.heap.size+1) (w.alloc (mq #[H next,.slice a l.length cap] 27)) ((w.alloc (mq #[H next,.slice a l.length cap] 27)).alloc (mq #[H s,H ty,H li,H qt,yj pr,yk tg] 63)):=(Below.refl _ _).alloc (by rw[xJ];omega) _;have xv:Hid (yn w ((w.alloc (mq #[H next,.slice a l.length cap] 27)).alloc (mq #[H s,H ty,H li,H qt,yj pr,yk tg] 63))):=(mn _ _).alloc (by rw[xJ];omega) _;have HX:Hid (_/\_):=⟨zc r1 qH (by omega),r2⟩;have qf:=Z ug;clear xJ ug r1 r2 qH;go_enter Tryz.func206,Tryz.ntmps206;refine ms fun mR xE=>?_;go_wp2_with fail;refine U xE _ _ ?_;clear xE;refine ms fun K2 jH=>?_;go_wp2_with fail;generalize ((w.alloc (mq #[H next,.slice a l.length cap] 27)).alloc (mq #[H s,H ty,H li,H qt,yj pr,yk tg] 63))=X2 at xv HX qf |-;have HX:Hid (X2.rangeAt w.heap.size 0 [H next,.slice a l.length cap]/\X2.rangeAt (w.heap.size+1) 0 [H s,H ty,H li,H qt,yj pr,yk tg]):=U HX;refine(U HCA X2 (zi (U HR) (U xv) ya)).mono ?_;rintro e w4 ⟨vq,vt,rfl,hoq,het,xy⟩
 obtain⟨av,cv,rfl⟩:∃a c,vt = .slice a Ft.length c:=by
  rcases het.2 with⟨e,e2⟩|⟨g,cap,xA,e,_⟩
  ·exact⟨none,0,by rw[e,e2]⟩
  ·exact⟨_,_,e⟩
 obtain⟨aq,cq,rfl⟩:∃a c,vq = .slice a FL.length c:=by
  rcases hoq.2 with⟨e,e2⟩|⟨g,cap,xA,e,_⟩
  ·exact⟨none,0,by rw[e,e2]⟩
  ·exact⟨_,_,e⟩
 have bR:=mn w4 (mq #[H (next+1),.slice aq FL.length cq,H next,H s,H (tk pr),H Fl,H li,yk tg,.slice av Ft.length cv] 259);have oW:Hid (MatS w4.heap.size X2.heap.size (w4.alloc (mq #[H (next+1),.slice aq FL.length cq,H next,H s,H (tk pr),H Fl,H li,yk tg,.slice av Ft.length cv] 259)) (next+1) (.slice aq FL.length cq) FL ⟨next,s,tk pr,Fl,li,tg⟩ (.slice av Ft.length cv) Ft):=⟨zm w4 [H (next+1),.slice aq FL.length cq,H next,H s,H (tk pr),H Fl,H li,yk tg,.slice av Ft.length cv] _,zW w4 [H (next+1),.slice aq FL.length cq,H next,H s,H (tk pr),H Fl,H li,yk tg,.slice av Ft.length cv] _,zt hoq bR,ff het bR,⟨_,heap_alloc_new w4 _⟩,yO xy.size (by rw[zf];omega)⟩;have vZ:Hid (yn X2 (w4.alloc (mq #[H (next+1),.slice aq FL.length cq,H next,H s,H (tk pr),H Fl,H li,yk tg,.slice av Ft.length cv] 259))):=xy.trans (bR.mono xy.size);have HMB:Hid (w.heap.size<=X2.heap.size/\X2.heap.size<=w4.heap.size):=⟨by have:=U qf;omega,xy.size⟩;clear bR hoq het xy;go_wp2_with fail;refine U jH _ _ ?_;generalize (w4.alloc (mq #[H (next+1),.slice aq FL.length cq,H next,H s,H (tk pr),H Fl,H li,yk tg,.slice av Ft.length cv] 259))=W6 at oW vZ |-;generalize w4.heap.size=mb at oW HMB |-;have hm:w.heap.size+1<X2.heap.size:=by have:=U qf;omega
 have k0:=zc (U HX).1 (U vZ) (by omega) 0 _ rfl;have o0:=zc (U HX).2 (U vZ) (by omega) 0 _ rfl;have o1:=zc (U HX).2 (U vZ) (by omega) 1 _ rfl;have o2:=zc (U HX).2 (U vZ) (by omega) 2 _ rfl;have o3:=zc (U HX).2 (U vZ) (by omega) 3 _ rfl;have o4:=zc (U HX).2 (U vZ) (by omega) 4 _ rfl;have o5:=zc (U HX).2 (U vZ) (by omega) 5 _ rfl;have y5:W6.cell? (J mb 5)=some (H Fl):=(U oW).cells 5 _ rfl;have y8:W6.cell? (J mb 8)=some (.slice av Ft.length cv):=(U oW).cells 8 _ rfl;simp only[Nat.zero_add] at k0 o0 o1 o2 o3 o4 o5;have uN:=Z ((U xv).trans ((U vZ).mono (U xv).size));have HMR:Hid (matR next ⟨kk,s,ty,li,qt,ii,pr,tg⟩ (FL,Fl,Ft)=if ty=5/\0<Ft.length then 11 else if ty=4/\0<Fl then 12 else if next=1000000 then 13 else if dT ty=true/\0<Fl then(if fullB (FL ++ [⟨next,s,tk pr,Fl,li,tg⟩])=true then 13 else 0) else 0):=rfl
 clear HCA HX jH
 by_cases jc:ty=5/\0<Ft.length
 ·obtain⟨rfl,hl⟩:=jc;have hl':(0:Int)<Ft.length:=by omega
  have HK:Hid (matR next ⟨kk,s,5,li,qt,ii,pr,tg⟩ (FL,Fl,Ft)=11):=by have:=U HMR;rw[if_pos ⟨rfl,hl⟩] at this;exact this
  clear hl;go_wp2_with fail;go_ret;exact⟨zB (U HK).symm,U uN⟩
 have HM1:Hid (_ = _):=(U HMR).trans (if_neg jc);clear HMR
 by_cases h5:ty=5
 ·subst h5;have hl':¬ (0:Int)<Ft.length:=fun h=>jc ⟨rfl,by omega⟩;have xV:Hid (_ = _):=(U HM1).trans (if_neg (fun h=>by cases h.1));clear HM1;clear jc
  by_cases qy:next=1000000
  ·subst qy;have HK:Hid (matR 1000000 ⟨kk,s,5,li,qt,ii,pr,tg⟩ (FL,Fl,Ft)=13):=by have:=U xV;rw[if_pos rfl] at this;exact this
   go_wp2_with fail;go_ret;exact⟨zB (U HK).symm,U uN⟩
  have hnb:(next==1000000)=false:=by rw[xe];exact qy
  have pN:Hid (_ = _):=(U xV).trans (if_neg qy);clear qy xV;go_wp2_with fail;refine(iL ⟨kk,s,5,li,qt,ii,pr,tg⟩ W6).mono ?_;rintro e w7 ⟨rfl,qE⟩;dsimp only;have qu:=Z (iW (U oW) qE);have qP:=Z (mr (U uN) qE);have y7:w7.cell? (J mb 5)=some (H Fl):=(U qu).cells 5 _ rfl;clear qE k0 o0 o1 o2 o3 o4 o5 y5 y8;cases oU:dT 5
  ·have HK:Hid (matR next ⟨kk,s,5,li,qt,ii,pr,tg⟩ (FL,Fl,Ft)=0):=by
    have:=U pN;rw[if_neg (fun h=>by rw[oU] at h;cases h.1)] at this;exact this
   clear oU;go_wp2_with fail;go_ret;exact⟨zB (U HK).symm,U qP⟩
  ·by_cases dE:0<Fl
   ·have HMRG:Hid (matR next ⟨kk,s,5,li,qt,ii,pr,tg⟩ (FL,Fl,Ft)=if fullB (FL ++ [⟨next,s,tk pr,Fl,li,tg⟩])=true then 13 else 0):=by
     have:=U pN;rw[if_pos ⟨oU,dE⟩] at this;exact this
    clear oU;go_wp2_with fail;refine(rest_any mb X2.heap.size (next+1) _ FL ⟨next,s,tk pr,Fl,li,tg⟩ _ Ft w7 (U qu) (by have:=(U HFG).1.len;omega)).mono ?_;rintro e w8 ⟨vq8,rfl,hM8,hK8⟩;have HM8:=Z hM8;have HB8:=Z (below_kept (U qP) hK8 (U HMB).1 (U HMB).2);clear hM8 hK8 y7;go_wp2_with fail
    refine(isTooFull_any mb X2.heap.size (next+1) vq8 _ ⟨next,s,tk pr,Fl,li,tg⟩ _ Ft w8 (U HM8) (by have:=(U HFG).1.len;rw[yQ];simp only[List.length_cons,List.length_nil];omega) (by
     intro o' vW;have hfg:=U HFG;rcases List.mem_append.1 vW with h|h
     ·have:=hfg.1.left o' h;omega
     ·rw[List.mem_singleton] at h;subst h;exact hfg.2)).mono ?_
    rintro e w9 ⟨rfl,ay⟩;have jE:=Z (mr (U HB8) ay);clear ay;cases hfu:fullB (FL ++ [⟨next,s,tk pr,Fl,li,tg⟩])
    ·have HK:Hid (matR next ⟨kk,s,5,li,qt,ii,pr,tg⟩ (FL,Fl,Ft)=0):=by have:=U HMRG;rw[hfu] at this;exact this
     clear hfu;go_wp2_with fail;go_ret;exact⟨zB (U HK).symm,U jE⟩
    ·have HK:Hid (matR next ⟨kk,s,5,li,qt,ii,pr,tg⟩ (FL,Fl,Ft)=13):=by have:=U HMRG;rw[hfu] at this;exact this
     clear hfu;go_wp2_with fail;go_ret;exact⟨zB (U HK).symm,U jE⟩
   ·have HK:Hid (matR next ⟨kk,s,5,li,qt,ii,pr,tg⟩ (FL,Fl,Ft)=0):=by have:=U pN;rw[if_neg (fun h=>dE h.2)] at this;exact this
    clear oU;go_wp2_with fail;go_ret;exact⟨zB (U HK).symm,U qP⟩
 have uc:(ty==5)=false:=by rw[xe];exact h5
 clear jc
 by_cases vT:ty=4/\0<Fl
 ·obtain⟨rfl,hl⟩:=vT;have HK:Hid (matR next ⟨kk,s,4,li,qt,ii,pr,tg⟩ (FL,Fl,Ft)=12):=by have:=U HM1;rw[if_pos ⟨rfl,hl⟩] at this;exact this
  clear h5 uc;go_wp2_with fail;go_ret;exact⟨zB (U HK).symm,U uN⟩
 have xV:Hid (_ = _):=(U HM1).trans (if_neg vT);clear HM1
 by_cases h4:ty=4
 ·subst h4;have hl':¬ 0<Fl:=fun h=>vT ⟨rfl,h⟩;clear vT h5 uc
  by_cases qy:next=1000000
  ·subst qy;have HK:Hid (matR 1000000 ⟨kk,s,4,li,qt,ii,pr,tg⟩ (FL,Fl,Ft)=13):=by have:=U xV;rw[if_pos rfl] at this;exact this
   go_wp2_with fail;go_ret;exact⟨zB (U HK).symm,U uN⟩
  have hnb:(next==1000000)=false:=by rw[xe];exact qy
  have pN:Hid (_ = _):=(U xV).trans (if_neg qy);clear qy xV;go_wp2_with fail;refine(iL ⟨kk,s,4,li,qt,ii,pr,tg⟩ W6).mono ?_;rintro e w7 ⟨rfl,qE⟩;dsimp only;have qu:=Z (iW (U oW) qE);have qP:=Z (mr (U uN) qE);have y7:w7.cell? (J mb 5)=some (H Fl):=(U qu).cells 5 _ rfl;clear qE k0 o0 o1 o2 o3 o4 o5 y5 y8;cases oU:dT 4
  ·have HK:Hid (matR next ⟨kk,s,4,li,qt,ii,pr,tg⟩ (FL,Fl,Ft)=0):=by
    have:=U pN;rw[if_neg (fun h=>by rw[oU] at h;cases h.1)] at this;exact this
   clear oU;go_wp2_with fail;go_ret;exact⟨zB (U HK).symm,U qP⟩
  ·exact absurd oU (by decide)
 have xy:(ty==4)=false:=by rw[xe];exact h4
 clear vT h5 h4
 by_cases qy:next=1000000
 ·subst qy;have HK:Hid (matR 1000000 ⟨kk,s,ty,li,qt,ii,pr,tg⟩ (FL,Fl,Ft)=13):=by have:=U xV;rw[if_pos rfl] at this;exact this
  go_wp2_with fail;go_ret;exact⟨zB (U HK).symm,U uN⟩
 have hnb:(next==1000000)=false:=by rw[xe];exact qy
 have pN:Hid (_ = _):=(U xV).trans (if_neg qy);clear qy xV;go_wp2_with fail;refine(iL ⟨kk,s,ty,li,qt,ii,pr,tg⟩ W6).mono ?_;rintro e w7 ⟨rfl,qE⟩;dsimp only;have qu:=Z (iW (U oW) qE);have qP:=Z (mr (U uN) qE);have y7:w7.cell? (J mb 5)=some (H Fl):=(U qu).cells 5 _ rfl;clear qE k0 o0 o1 o2 o3 o4 o5 y5 y8;cases oU:dT ty
 ·have HK:Hid (matR next ⟨kk,s,ty,li,qt,ii,pr,tg⟩ (FL,Fl,Ft)=0):=by
   have:=U pN;rw[if_neg (fun h=>by rw[oU] at h;cases h.1)] at this;exact this
  clear oU;go_wp2_with fail;go_ret;exact⟨zB (U HK).symm,U qP⟩
 ·by_cases dE:0<Fl
  ·have HMRG:Hid (matR next ⟨kk,s,ty,li,qt,ii,pr,tg⟩ (FL,Fl,Ft)=if fullB (FL ++ [⟨next,s,tk pr,Fl,li,tg⟩])=true then 13 else 0):=by
    have:=U pN;rw[if_pos ⟨oU,dE⟩] at this;exact this
   clear oU;go_wp2_with fail;refine(rest_any mb X2.heap.size (next+1) _ FL ⟨next,s,tk pr,Fl,li,tg⟩ _ Ft w7 (U qu) (by have:=(U HFG).1.len;omega)).mono ?_;rintro e w8 ⟨vq8,rfl,hM8,hK8⟩;have HM8:=Z hM8;have HB8:=Z (below_kept (U qP) hK8 (U HMB).1 (U HMB).2);clear hM8 hK8 y7;go_wp2_with fail
   refine(isTooFull_any mb X2.heap.size (next+1) vq8 _ ⟨next,s,tk pr,Fl,li,tg⟩ _ Ft w8 (U HM8) (by have:=(U HFG).1.len;rw[yQ];simp only[List.length_cons,List.length_nil];omega) (by
    intro o' vW;have hfg:=U HFG;rcases List.mem_append.1 vW with h|h
    ·have:=hfg.1.left o' h;omega
    ·rw[List.mem_singleton] at h;subst h;exact hfg.2)).mono ?_
   rintro e w9 ⟨rfl,ay⟩;have jE:=Z (mr (U HB8) ay);clear ay;cases hfu:fullB (FL ++ [⟨next,s,tk pr,Fl,li,tg⟩])
   ·have HK:Hid (matR next ⟨kk,s,ty,li,qt,ii,pr,tg⟩ (FL,Fl,Ft)=0):=by have:=U HMRG;rw[hfu] at this;exact this
    clear hfu;go_wp2_with fail;go_ret;exact⟨zB (U HK).symm,U jE⟩
   ·have HK:Hid (matR next ⟨kk,s,ty,li,qt,ii,pr,tg⟩ (FL,Fl,Ft)=13):=by have:=U HMRG;rw[hfu] at this;exact this
    clear hfu;go_wp2_with fail;go_ret;exact⟨zB (U HK).symm,U jE⟩
  ·have HK:Hid (matR next ⟨kk,s,ty,li,qt,ii,pr,tg⟩ (FL,Fl,Ft)=0):=by have:=U pN;rw[if_neg (fun h=>dE h.2)] at this;exact this
   clear oU;go_wp2_with fail;go_ret;exact⟨zB (U HK).symm,U qP⟩
def lifW (c:Cm):Bool:=!betB c.l 0 1||(decide (c.l=1) && !dT c.t)
def newR (next:Int)(l:List Od)(c:Cm):Int:=
 if betB c.s 1 2=false then 3 else if betB c.t 1 5=false then 4 else if lifW c=true then 5 else if prcB c=false then 6 else if betB c.q 1 1000000=false then 7 else if tagB c.g=false then 8 else matR next c (matL c next 21 l c.q [])
theorem newRefusal_any (next:Int)(vb:Value)(l:List Od)(c:Cm)(w:World)(hr:RdR Od.vs 6 w vb l)(hs:SlOk vb)(X:GoodL l)(h0:0<=next)(D:next<=1000000)(ht:c.g.size<=maxLen) :
  Calls Tryz.prog 186 #[.agg #[H next,vb],noV c] w fun e w'=>e=ym (H (newR next l c))/\yn w w':=by
 have HR:=Z hr;have HG:=Z X;have jg:=Z hs;have vK:Hid (0<=next/\next<=1000000):=⟨h0,D⟩;have pz:=Z ht;obtain⟨a,cap,rfl,xC,hc⟩:=hr;clear hc X hs h0 D ht xC;generalize qj:newR next l c=res;have HN0:Hid (_ = res):=qj;clear qj;obtain⟨kk,s,ty,li,qt,ii,pr,tg⟩:=c;unfold newR at HN0;unfold noV;simp only at *;have xJ:=zf w (mq #[H next,.slice a l.length cap] 27);have ug:((w.alloc (mq #[H next,.slice a l.length cap] 27)).alloc (mq #[H s,H ty,H li,H qt,yj pr,yk tg] 63)).heap.size=w.heap.size+1+1:=by rw[zf,xJ]
 have r1:=zm w [H next,.slice a l.length cap] 27;have r2:=zm (w.alloc (mq #[H next,.slice a l.length cap] 27)) [H s,H ty,H li,H qt,yj pr,yk tg] 63;rw[xJ] at r2;have qH:Below (w.heap.size+1) (w.alloc (mq #[H next,.slice a l.length cap] 27)) ((w.alloc (mq #[H next,.slice a l.length cap] 27)).alloc (mq #[H s,H ty,H li,H qt,yj pr,yk tg] 63)):=(Below.refl _ _).alloc (by rw[xJ];omega) _;have xv:Hid (yn w ((w.alloc (mq #[H next,.slice a l.length cap] 27)).alloc (mq #[H s,H ty,H li,H qt,yj pr,yk tg] 63))):=(mn _ _).alloc (by rw[xJ];omega) _;have HX:Hid (_/\_):=⟨zc r1 qH (by omega),r2⟩;have uy:Hid (w.heap.size<((w.alloc (mq #[H next,.slice a l.length cap] 27)).alloc (mq #[H s,H ty,H li,H qt,yj pr,yk tg] 63)).heap.size/\w.heap.size+1<((w.alloc (mq #[H next,.slice a l.length cap] 27)).alloc (mq #[H s,H ty,H li,H qt,yj pr,yk tg] 63)).heap.size):=⟨by omega,by omega⟩;clear xJ ug r1 r2 qH;go_enter Tryz.func186,Tryz.ntmps186;refine ms fun mR xE=>?_;go_wp2_with fail;refine U xE _ _ ?_;clear xE;generalize ((w.alloc (mq #[H next,.slice a l.length cap] 27)).alloc (mq #[H s,H ty,H li,H qt,yj pr,yk tg] 63))=X2 at xv HX uy |-;have HX:Hid (X2.rangeAt w.heap.size 0 [H next,.slice a l.length cap]/\X2.rangeAt (w.heap.size+1) 0 [H s,H ty,H li,H qt,yj pr,yk tg]):=U HX;have k0:=zc (U HX).1 (Below.refl _ _) (U uy).1 0 _ rfl;have k1:=zc (U HX).1 (Below.refl _ _) (U uy).1 1 _ rfl;have o0:=zc (U HX).2 (Below.refl _ _) (U uy).2 0 _ rfl;have o1:=zc (U HX).2 (Below.refl _ _) (U uy).2 1 _ rfl;have o2:=zc (U HX).2 (Below.refl _ _) (U uy).2 2 _ rfl;have o3:=zc (U HX).2 (Below.refl _ _) (U uy).2 3 _ rfl;have o4:=zc (U HX).2 (Below.refl _ _) (U uy).2 4 _ rfl;have o5:=zc (U HX).2 (Below.refl _ _) (U uy).2 5 _ rfl;simp only[Nat.zero_add] at k0 k1 o0 o1 o2 o3 o4 o5;go_wp2_with fail;refine(gZ s X2).mono ?_;rintro e w' ⟨rfl,rfl⟩;cases h3:betB s 1 2
 ·have HK:Hid (3=res):=by have:=U HN0;rw[if_pos h3] at this;exact this
  clear h3;go_wp2_with fail;go_ret;exact⟨zB (U HK),U xv⟩
 have HN1:Hid (_ = res):=(if_neg (fun h=>by rw[h3] at h;cases h)).symm.trans (U HN0);clear h3 HN0;go_wp2_with fail;refine(isType_any ty w').mono ?_;rintro e w1 ⟨rfl,rfl⟩;cases h4:betB ty 1 5
 ·have HK:Hid (4=res):=by have:=U HN1;rw[if_pos h4] at this;exact this
  clear h4;go_wp2_with fail;go_ret;exact⟨zB (U HK),U xv⟩
 have HN2:Hid (_ = res):=(if_neg (fun h=>by rw[h4] at h;cases h)).symm.trans (U HN1);clear h4 HN1;go_wp2_with fail;refine(gY li w1).mono ?_;rintro e w2 ⟨rfl,rfl⟩;cases h5:betB li 0 1
 ·have HK:Hid (5=res):=by have:=U HN2;rw[if_pos (by simp[lifW,h5])] at this;exact this
  clear h5;go_wp2_with fail;go_ret;exact⟨zB (U HK),U xv⟩
 by_cases hli:li=1
 ·subst hli;go_wp2_with fail;refine(iL ⟨kk,s,ty,1,qt,ii,pr,tg⟩ w2).mono ?_;rintro e w3 ⟨rfl,xL⟩;dsimp only;have xK:=Z xL;clear xL k0 k1 o0 o1 o2 o3 o4 o5;cases h6:dT ty
  ·have HK:Hid (5=res):=by have:=U HN2;rw[if_pos (by simp[lifW,h6])] at this;exact this
   clear h6 h5;go_wp2_with fail;go_ret;exact⟨zB (U HK),(U xv).trans ((U xK).mono (U xv).size)⟩
  have aj:Hid (_ = res):=(if_neg (by simp[lifW,h5,h6])).symm.trans (U HN2);clear h5 h6 HN2;have k0:=zc (U HX).1 (U xK) (U uy).1 0 _ rfl;have k1:=zc (U HX).1 (U xK) (U uy).1 1 _ rfl;have o0:=zc (U HX).2 (U xK) (U uy).2 0 _ rfl;have o1:=zc (U HX).2 (U xK) (U uy).2 1 _ rfl;have o2:=zc (U HX).2 (U xK) (U uy).2 2 _ rfl;have o3:=zc (U HX).2 (U xK) (U uy).2 3 _ rfl;have o4:=zc (U HX).2 (U xK) (U uy).2 4 _ rfl;have o5:=zc (U HX).2 (U xK) (U uy).2 5 _ rfl;simp only[Nat.zero_add] at k0 k1 o0 o1 o2 o3 o4 o5;go_wp2_with fail;refine(hasPrice_any ⟨kk,s,ty,1,qt,ii,pr,tg⟩ w3).mono ?_;rintro e w4 ⟨rfl,xy⟩;have xF:=Z (mr (U xK) xy);clear xy k0 k1 o0 o1 o2 o3 o4 o5 xK;cases h7:prcB ⟨kk,s,ty,1,qt,ii,pr,tg⟩
  ·have HK:Hid (6=res):=by have:=U aj;rw[if_pos h7] at this;exact this
   clear h7;go_wp2_with fail;go_ret;exact⟨zB (U HK),(U xv).trans ((U xF).mono (U xv).size)⟩
  have HN4:Hid (_ = res):=(if_neg (fun h=>by rw[h7] at h;cases h)).symm.trans (U aj);clear h7 aj;have k0:=zc (U HX).1 (U xF) (U uy).1 0 _ rfl;have k1:=zc (U HX).1 (U xF) (U uy).1 1 _ rfl;have o0:=zc (U HX).2 (U xF) (U uy).2 0 _ rfl;have o1:=zc (U HX).2 (U xF) (U uy).2 1 _ rfl;have o2:=zc (U HX).2 (U xF) (U uy).2 2 _ rfl;have o3:=zc (U HX).2 (U xF) (U uy).2 3 _ rfl;have o4:=zc (U HX).2 (U xF) (U uy).2 4 _ rfl;have o5:=zc (U HX).2 (U xF) (U uy).2 5 _ rfl;simp only[Nat.zero_add] at k0 k1 o0 o1 o2 o3 o4 o5;go_wp2_with fail;refine(isQty_any qt w4).mono ?_;rintro e w5 ⟨rfl,rfl⟩;cases h8:betB qt 1 1000000
  ·have HK:Hid (7=res):=by have:=U HN4;rw[if_pos h8] at this;exact this
   clear h8;go_wp2_with fail;go_ret;exact⟨zB (U HK),(U xv).trans ((U xF).mono (U xv).size)⟩
  have HN5:Hid (_ = res):=(if_neg (fun h=>by rw[h8] at h;cases h)).symm.trans (U HN4)
  have HQB:Hid (0<=qt/\qt<=1000000):=by
   simp only[betB,xf,xg] at h8;exact⟨by omega,h8.2⟩
  clear h8 HN4;go_wp2_with fail;refine(isTag_any tg w5 (U pz)).mono ?_;rintro e w6 ⟨rfl,rfl⟩;cases h9:tagB tg
  ·have HK:Hid (8=res):=by have:=U HN5;rw[if_pos h9] at this;exact this
   clear h9;go_wp2_with fail;go_ret;exact⟨zB (U HK),(U xv).trans ((U xF).mono (U xv).size)⟩
  have HN6:Hid (_ = res):=(if_neg (fun h=>by rw[h9] at h;cases h)).symm.trans (U HN5);clear h9 HN5;go_wp2_with fail;refine(md next _ l ⟨kk,s,ty,1,qt,ii,pr,tg⟩ w6 (zi (U HR) ((U xv).trans ((U xF).mono (U xv).size)) ya) (U jg) (U HG) (U vK).1 (U vK).2 (U HQB).1 (U HQB).2).mono ?_;dsimp only;rw[U HN6];rintro e w7 ⟨rfl,qE⟩;have qP:=Z (((U xv).trans ((U xF).mono (U xv).size)).trans (qE.mono ((U xv).trans ((U xF).mono (U xv).size)).size));clear qE;go_wp2_with fail;go_ret;exact⟨rfl,U qP⟩
 have hlb:(li==1)=false:=by rw[xe];exact hli
 have aj:Hid (_ = res):=(if_neg (by simp[lifW,h5,hli])).symm.trans (U HN2);have xK:Hid (yn w2 w2):=Below.refl _ _;clear h5 hli HN2;go_wp2_with fail;refine(hasPrice_any ⟨kk,s,ty,li,qt,ii,pr,tg⟩ w2).mono ?_;rintro e w4 ⟨rfl,xy⟩;have xF:=Z (mr (U xK) xy);clear xy k0 k1 o0 o1 o2 o3 o4 o5 xK;cases h7:prcB ⟨kk,s,ty,li,qt,ii,pr,tg⟩
 ·have HK:Hid (6=res):=by have:=U aj;rw[if_pos h7] at this;exact this
  clear h7;go_wp2_with fail;go_ret;exact⟨zB (U HK),(U xv).trans ((U xF).mono (U xv).size)⟩
 have HN4:Hid (_ = res):=(if_neg (fun h=>by rw[h7] at h;cases h)).symm.trans (U aj);clear h7 aj;have k0:=zc (U HX).1 (U xF) (U uy).1 0 _ rfl;have k1:=zc (U HX).1 (U xF) (U uy).1 1 _ rfl;have o0:=zc (U HX).2 (U xF) (U uy).2 0 _ rfl;have o1:=zc (U HX).2 (U xF) (U uy).2 1 _ rfl;have o2:=zc (U HX).2 (U xF) (U uy).2 2 _ rfl;have o3:=zc (U HX).2 (U xF) (U uy).2 3 _ rfl;have o4:=zc (U HX).2 (U xF) (U uy).2 4 _ rfl;have o5:=zc (U HX).2 (U xF) (U uy).2 5 _ rfl;simp only[Nat.zero_add] at k0 k1 o0 o1 o2 o3 o4 o5;go_wp2_with fail;refine(isQty_any qt w4).mono ?_;rintro e w5 ⟨rfl,rfl⟩;cases h8:betB qt 1 1000000
 ·have HK:Hid (7=res):=by have:=U HN4;rw[if_pos h8] at this;exact this
  clear h8;go_wp2_with fail;go_ret;exact⟨zB (U HK),(U xv).trans ((U xF).mono (U xv).size)⟩
 have HN5:Hid (_ = res):=(if_neg (fun h=>by rw[h8] at h;cases h)).symm.trans (U HN4)
 have HQB:Hid (0<=qt/\qt<=1000000):=by
  simp only[betB,xf,xg] at h8;exact⟨by omega,h8.2⟩
 clear h8 HN4;go_wp2_with fail;refine(isTag_any tg w5 (U pz)).mono ?_;rintro e w6 ⟨rfl,rfl⟩;cases h9:tagB tg
 ·have HK:Hid (8=res):=by have:=U HN5;rw[if_pos h9] at this;exact this
  clear h9;go_wp2_with fail;go_ret;exact⟨zB (U HK),(U xv).trans ((U xF).mono (U xv).size)⟩
 have HN6:Hid (_ = res):=(if_neg (fun h=>by rw[h9] at h;cases h)).symm.trans (U HN5);clear h9 HN5;go_wp2_with fail;refine(md next _ l ⟨kk,s,ty,li,qt,ii,pr,tg⟩ w6 (zi (U HR) ((U xv).trans ((U xF).mono (U xv).size)) ya) (U jg) (U HG) (U vK).1 (U vK).2 (U HQB).1 (U HQB).2).mono ?_;dsimp only;rw[U HN6];rintro e w7 ⟨rfl,qE⟩;have qP:=Z (((U xv).trans ((U xF).mono (U xv).size)).trans (qE.mono ((U xv).trans ((U xF).mono (U xv).size)).size));clear qE;go_wp2_with fail;go_ret;exact⟨rfl,U qP⟩
theorem reduceRefusal_any (next:Int)(vb:Value)(l:List Od)(id qty:Int)(w:World)(hr:RdR Od.vs 6 w vb l) :
  Calls Tryz.prog 188 #[.agg #[H next,vb],.agg #[H id,H qty]] w fun e w'=>e=ym (H (redR l id qty))/\yn w w':=by
 have HR:=Z hr;obtain⟨a,cap,rfl,xC,hc⟩:=hr;have jZ:=Z hc;clear hc;have xJ:=zf w (mq #[H next,.slice a l.length cap] 27);have ug:((w.alloc (mq #[H next,.slice a l.length cap] 27)).alloc (mq #[H id,H qty] 216)).heap.size=w.heap.size+1+1:=by rw[zf,xJ]
 have r1:=zm w [H next,.slice a l.length cap] 27;have r2:=zm (w.alloc (mq #[H next,.slice a l.length cap] 27)) [H id,H qty] 216;rw[xJ] at r2;have qH:Below (w.heap.size+1) (w.alloc (mq #[H next,.slice a l.length cap] 27)) ((w.alloc (mq #[H next,.slice a l.length cap] 27)).alloc (mq #[H id,H qty] 216)):=(Below.refl _ _).alloc (by rw[xJ];omega) _;have xv:Hid (yn w ((w.alloc (mq #[H next,.slice a l.length cap] 27)).alloc (mq #[H id,H qty] 216))):=(mn _ _).alloc (by rw[xJ];omega) _;have HX:Hid (_/\_):=⟨zc r1 qH (by omega),r2⟩;have uy:Hid (w.heap.size<((w.alloc (mq #[H next,.slice a l.length cap] 27)).alloc (mq #[H id,H qty] 216)).heap.size/\w.heap.size+1<((w.alloc (mq #[H next,.slice a l.length cap] 27)).alloc (mq #[H id,H qty] 216)).heap.size):=⟨by omega,by omega⟩;clear xJ ug r1 r2 qH;go_enter Tryz.func188,Tryz.ntmps188;refine ms fun mR xE=>?_;go_wp2_with fail;refine U xE _ _ ?_;clear xE;generalize ((w.alloc (mq #[H next,.slice a l.length cap] 27)).alloc (mq #[H id,H qty] 216))=X2 at xv HX uy |-;have HX:Hid (X2.rangeAt w.heap.size 0 [H next,.slice a l.length cap]/\X2.rangeAt (w.heap.size+1) 0 [H id,H qty]):=U HX;have k0:X2.cell? (yq w 0)=some (H next):=(U HX).1 0 _ rfl;have k1:X2.cell? (yq w 1)=some (.slice a l.length cap):=(U HX).1 1 _ rfl;have o0:X2.cell? (J (w.heap.size+1) 0)=some (H id):=(U HX).2 0 _ rfl;have o1:X2.cell? (J (w.heap.size+1) 1)=some (H qty):=(U HX).2 1 _ rfl;go_wp2_with fail;refine(isQty_any qty X2).mono ?_;rintro e w3 ⟨rfl,rfl⟩;cases hq:betB qty 1 1000000
 ·have HK:Hid (redR l id qty=7):=by show _ = _;rw[redR,if_neg (by rw[hq];simp)]
  clear hq;go_wp2_with fail;go_ret;exact⟨zB (U HK).symm,U xv⟩
 have HQ:=Z hq;clear hq;go_wp2_with fail;refine(idRefusal_any next _ l id w3 (zi (U HR) (U xv) ya)).mono ?_;rcases lq l id with hp|⟨k,o,hp,hk⟩
 ·have uk:idR l id=9:=by rw[idR,if_pos (by omega)]
  rw[uk];have HK:Hid (redR l id qty=9):=by show _ = _;rw[redR,if_pos (U HQ),if_pos (by omega)]
  clear hp uk;rintro e w4 ⟨rfl,xy⟩;have xF:=Z (mr (U xv) xy);clear xy;go_wp2_with fail;go_ret;exact⟨zB (U HK).symm,U xF⟩
 have uk:idR l id=0:=by rw[idR,if_neg (by omega)]
 rw[uk];have ku:=Z hp
 have uK:Hid (redR l id qty=if o.left<=qty then 10 else 0):=by
  show _ = _;rw[redR,if_pos (U HQ),if_neg (by omega),hp,Int.toNat_natCast,hk]
 have oE:=(yH.1 hk).1;obtain⟨b,off,rfl,pl,xn⟩:=U jZ (by intro h;rw[h] at oE;simp at oE);have ah:=Z (xn k o hk);have cT:(k:Int)<l.length:=by omega
 have oT:(0:Int)<=k:=by omega
 clear hp uk xn hk;rintro e w4 ⟨rfl,xy⟩;have xF:=Z (mr (U xv) xy);have xH:Hid (w4.rangeAt w.heap.size 0 [H next,.slice (some (J b off)) l.length cap]/\w4.rangeAt (w.heap.size+1) 0 [H id,H qty]/\w.heap.size<w4.heap.size/\w.heap.size+1<w4.heap.size):=⟨zc (U HX).1 xy (U uy).1,zc (U HX).2 xy (U uy).2,yK (U uy).1 xy.size,yK (U uy).2 xy.size⟩;clear xy k0 k1 o0 o1;go_wp2_with fail;have pT:Hid (yn w4 w4.drew):=(Below.refl _ _).drew;have HPO:Hid (∀V,yn w4 V->Calls Tryz.prog 156 #[.agg #[H next,.slice (some (J b off)) l.length cap],H id] V fun e w'=>e=ym (H k)/\yn w4 w'):=fun V hV=>(iT next _ l id V (zi (U HR) (mr (U xF) hV) ya)).mono fun e w' ⟨D,Y⟩=>⟨by rw[D,U ku],hV.trans (Y.mono hV.size)⟩
 have qZ:Hid (∀V,yn w4 V->V.cell? (J (w.heap.size+1) 1)=some (H qty)/\V.cell? (J (w.heap.size+1) 0)=some (H id)/\V.cell? (yq w 0)=some (H next)/\V.cell? (yq w 1)=some (.slice (some (J b off)) l.length cap)/\V.cell? (J b (off+k*6+3))=some (H o.left)):=fun V hV=>by
  have D:=zc (U xH).1 hV (U xH).2.2.1;have Y:=zc (U xH).2.1 hV (U xH).2.2.2;obtain⟨-,-,-,y3,-⟩:=zF (zc (U ah) (mr (U xF) hV) pl);exact⟨Y 1 _ rfl,Y 0 _ rfl,D 0 _ rfl,D 1 _ rfl,y3⟩
 go_region_held3 (fun w'=>w'.cell? (J (w.heap.size+1) 1)=some (H qty)/\w'.cell? (J (w.heap.size+1) 0)=some (H id)/\w'.cell? (yq w 0)=some (H next)/\w'.cell? (yq w 1)=some (.slice (some (J b off)) l.length cap)/\w'.cell? (J b (off+k*6+3))=some (H o.left)) (first|exact U qZ _ hq|exact U qZ _ (U pT)|go_keep) ((go_at_call 156;refine(U HPO _ (U pT)).mono ?_;rintro e V ⟨rfl,hq⟩))
 have xK:=Z (mr (U xF) hq);clear hq HPO qZ pT
 by_cases qS:o.left<=qty
 ·have HK:Hid (redR l id qty=10):=(U uK).trans (if_pos qS);go_wp2_with fail;go_ret;exact⟨zB (U HK).symm,U xK⟩
 ·have HK:Hid (redR l id qty=0):=(U uK).trans (if_neg qS);go_wp2_with fail;go_ret;exact⟨zB (U HK).symm,U xK⟩
theorem refusal_1 (next:Int)(vb:Value)(l:List Od)(s ty li qt ii:Int)(pr:Nat)(tg:ByteArray)(w:World)(hr:RdR Od.vs 6 w vb l)(hs:SlOk vb)(X:GoodL l)(h0:0<=next)(D:next<=1000000)(ht:tg.size<=maxLen) :
  Calls Tryz.prog 152 #[.agg #[H next,vb],.agg (yx 1 s ty li qt ii pr tg).toArray] w fun e w'=>e=ym (H (if dY ⟨1,s,ty,li,qt,0,pr,tg⟩ ⟨1,s,ty,li,qt,ii,pr,tg⟩=true then newR next l ⟨1,s,ty,li,qt,ii,pr,tg⟩ else 2))/\yn w w':=by
 have HR:=Z hr;have HG:=Z X;have jg:=Z hs;have vK:Hid (0<=next/\next<=1000000):=⟨h0,D⟩;have pz:=Z ht;obtain⟨a,cap,rfl,xC,hc⟩:=hr;clear hc X hs h0 D ht xC;generalize hsm:dY ⟨1,s,ty,li,qt,0,pr,tg⟩ ⟨1,s,ty,li,qt,ii,pr,tg⟩=sm;have HSM:=Z hsm;clear hsm;have xJ:=zf w (mq #[H next,.slice a l.length cap] 27);have ug:((w.alloc (mq #[H next,.slice a l.length cap] 27)).alloc (mq (yx 1 s ty li qt ii pr tg).toArray 33)).heap.size=w.heap.size+1+1:=by rw[zf,xJ]
 have r1:=zm w [H next,.slice a l.length cap] 27;have r2:=zm (w.alloc (mq #[H next,.slice a l.length cap] 27)) (yx 1 s ty li qt ii pr tg) 33;rw[xJ] at r2;have qH:Below (w.heap.size+1) (w.alloc (mq #[H next,.slice a l.length cap] 27)) ((w.alloc (mq #[H next,.slice a l.length cap] 27)).alloc (mq (yx 1 s ty li qt ii pr tg).toArray 33)):=(Below.refl _ _).alloc (by rw[xJ];omega) _;have xv:Hid (yn w ((w.alloc (mq #[H next,.slice a l.length cap] 27)).alloc (mq (yx 1 s ty li qt ii pr tg).toArray 33))):=(mn _ _).alloc (by rw[xJ];omega) _;have HX:Hid (_/\_):=⟨zc r1 qH (by omega),r2⟩;have uy:Hid (w.heap.size<((w.alloc (mq #[H next,.slice a l.length cap] 27)).alloc (mq (yx 1 s ty li qt ii pr tg).toArray 33)).heap.size/\w.heap.size+1<((w.alloc (mq #[H next,.slice a l.length cap] 27)).alloc (mq (yx 1 s ty li qt ii pr tg).toArray 33)).heap.size):=⟨by omega,by omega⟩;clear xJ ug r1 r2 qH;go_enter Tryz.func152,Tryz.ntmps152;refine ms fun mR xE=>?_;go_wp2_with fail;refine U xE _ _ ?_;clear xE;generalize ((w.alloc (mq #[H next,.slice a l.length cap] 27)).alloc (mq (yx 1 s ty li qt ii pr tg).toArray 33))=X2 at xv HX uy |-;have HX:Hid (X2.rangeAt w.heap.size 0 [H next,.slice a l.length cap]/\X2.rangeAt (w.heap.size+1) 0 (yx 1 s ty li qt ii pr tg)):=U HX;obtain⟨o0,o1,o2,o3,o4,o5,o6,o7⟩:=yE (U HX).2;go_wp2_with fail;refine(iQ ⟨1,s,ty,li,qt,ii,pr,tg⟩ X2).mono ?_;have dI:cmdI ⟨1,s,ty,li,qt,ii,pr,tg⟩ = .iface 63 (.agg #[H s,H ty,H li,H qt,yj pr,yk tg]):=by simp[cmdI,noV]
 rw [dI];clear dI;rintro e w4 ⟨rfl,xy⟩;have xF:=Z (mr (U xv) xy);have xH:Hid (w4.rangeAt w.heap.size 0 [H next,.slice a l.length cap]/\w4.rangeAt (w.heap.size + 1) 0 (yx 1 s ty li qt ii pr tg)/\w.heap.size < w4.heap.size/\w.heap.size + 1 < w4.heap.size):=⟨zc (U HX).1 xy (U uy).1,zc (U HX).2 xy (U uy).2,yK (U uy).1 xy.size,yK (U uy).2 xy.size⟩;clear xy o0 o1 o2 o3 o4 o5 o6 o7;go_wp2_with fail;have hm:∀ W:World,Sem.run Tryz.prog (method 390 63 (.agg #[H s,H ty,H li,H qt,yj pr,yk tg]) "loop.example/g00092/impl.told") W = .ok (231,.agg #[H s,H ty,H li,H qt,yj pr,yk tg]) W:=fun W=>by kernel_rfl
 have pT:Hid (yn w4 w4.drew):=(Below.refl _ _).drew;have xQ:=Z (fun W=>lz ⟨1,s,ty,li,qt,0,pr,tg⟩ ⟨1,s,ty,li,qt,ii,pr,tg⟩ W);rw[U HSM] at xQ;unfold cmV at xQ;simp only at xQ;have pd:=Z (fun W=>toldNew_any ⟨1,s,ty,li,qt,ii,pr,tg⟩ W);unfold noV at pd;simp only at pd;have qZ:Hid (∀V,yn w4 V->V.cell? (J (w.heap.size+1) 0)=some (H 1)/\V.cell? (J (w.heap.size+1) 1)=some (H s)/\V.cell? (J (w.heap.size+1) 2)=some (H ty)/\V.cell? (J (w.heap.size+1) 3)=some (H li)/\V.cell? (J (w.heap.size+1) 4)=some (H qt)/\V.cell? (J (w.heap.size+1) 5)=some (H ii)/\V.cell? (J (w.heap.size+1) 6)=some (yj pr)/\V.cell? (J (w.heap.size+1) 7)=some (yk tg)):=fun V hV=>⟨zc (U xH).2.1 hV (U xH).2.2.2 0 _ rfl,zc (U xH).2.1 hV (U xH).2.2.2 1 _ rfl,zc (U xH).2.1 hV (U xH).2.2.2 2 _ rfl,zc (U xH).2.1 hV (U xH).2.2.2 3 _ rfl,zc (U xH).2.1 hV (U xH).2.2.2 4 _ rfl,zc (U xH).2.1 hV (U xH).2.2.2 5 _ rfl,zc (U xH).2.1 hV (U xH).2.2.2 6 _ rfl,zc (U xH).2.1 hV (U xH).2.2.2 7 _ rfl⟩
 go_region_held3 (fun w'=>w'.cell? (J (w.heap.size+1) 0)=some (H 1)/\w'.cell? (J (w.heap.size+1) 1)=some (H s)/\w'.cell? (J (w.heap.size+1) 2)=some (H ty)/\w'.cell? (J (w.heap.size+1) 3)=some (H li)/\w'.cell? (J (w.heap.size+1) 4)=some (H qt)/\w'.cell? (J (w.heap.size+1) 5)=some (H ii)/\w'.cell? (J (w.heap.size+1) 6)=some (yj pr)/\w'.cell? (J (w.heap.size+1) 7)=some (yk tg)) (first|exact U qZ _ xo|exact U qZ _ (U pT)|go_keep) (first|(go_at_call 231;refine(U pd _).mono ?_;rintro e V5 ⟨rfl,uc⟩;have xo:=(U pT).trans uc)|(go_at_call 185;refine(U xQ _).mono ?_;rintro e V ⟨rfl,jm⟩;have xo:=xo.trans (jm.mono xo.size)))
 have xK:=Z (mr (U xF) xo);have z0:=zc (U xH).1 xo (U xH).2.2.1 0 _ rfl;have z1:=zc (U xH).1 xo (U xH).2.2.1 1 _ rfl;rw[Nat.zero_add] at z0 z1;have ta1:∀W:World,Sem.run Tryz.prog (Instr.typeAssert (.iface 63 (.agg #[H s,H ty,H li,H qt,yj pr,yk tg])) 209 63 true) W = .ok (.tuple #[.agg #[H s,H ty,H li,H qt,yj pr,yk tg],.bool true]) W:=fun W=>by kernel_rfl
 clear xo pd xQ hm;cases sm
 ·go_wp2_with fail;go_ret;exact⟨rfl,U xK⟩
 ·have xM:w.heap.size<V.heap.size:=yL V (yq w 0) z0;have y0:World.cell? (V.alloc (mq #[H s,H ty,H li,H qt,yj pr,yk tg] 63)) (yq w 0)=some (H next):=(yW _ _ _ xM).trans z0;have y1:World.cell? (V.alloc (mq #[H s,H ty,H li,H qt,yj pr,yk tg] 63)) (yq w 1)=some (.slice a l.length cap):=(yW _ _ _ xM).trans z1;have qh:Hid (yn w (V.alloc (mq #[H s,H ty,H li,H qt,yj pr,yk tg] 63))):=(U xK).alloc (U xK).size _;clear z0 z1 xM;have hsf:=sfl;go_wp2_with fail;refine(newRefusal_any next _ l ⟨1,s,ty,li,qt,ii,pr,tg⟩ _ (zi (U HR) (U qh) ya) (U jg) (U HG) (U vK).1 (U vK).2 (U pz)).mono ?_;rintro e w7 ⟨rfl,qE⟩;have qP:=Z (mr (U qh) qE);clear qE;go_wp2_with fail;go_ret;exact⟨rfl,U qP⟩
theorem refusal_2 (next:Int)(vb:Value)(l:List Od)(s ty li qt ii:Int)(pr:Nat)(tg:ByteArray)(w:World)(hr:RdR Od.vs 6 w vb l)(hs:SlOk vb)(X:GoodL l)(h0:0<=next)(D:next<=1000000)(ht:tg.size<=maxLen) :
  Calls Tryz.prog 152 #[.agg #[H next,vb],.agg (yx 2 s ty li qt ii pr tg).toArray] w fun e w'=>e=ym (H (if dY ⟨2,0,0,0,0,ii,0,⟨#[]⟩⟩ ⟨2,s,ty,li,qt,ii,pr,tg⟩=true then idR l ii else 2))/\yn w w':=by
 have HR:=Z hr;have HG:=Z X;have jg:=Z hs;have vK:Hid (0<=next/\next<=1000000):=⟨h0,D⟩;have pz:=Z ht;obtain⟨a,cap,rfl,xC,hc⟩:=hr;clear hc X hs h0 D ht xC;generalize hsm:dY ⟨2,0,0,0,0,ii,0,⟨#[]⟩⟩ ⟨2,s,ty,li,qt,ii,pr,tg⟩=sm;have HSM:=Z hsm;clear hsm;have xJ:=zf w (mq #[H next,.slice a l.length cap] 27);have ug:((w.alloc (mq #[H next,.slice a l.length cap] 27)).alloc (mq (yx 2 s ty li qt ii pr tg).toArray 33)).heap.size=w.heap.size+1+1:=by rw[zf,xJ]
 have r1:=zm w [H next,.slice a l.length cap] 27;have r2:=zm (w.alloc (mq #[H next,.slice a l.length cap] 27)) (yx 2 s ty li qt ii pr tg) 33;rw[xJ] at r2;have qH:Below (w.heap.size+1) (w.alloc (mq #[H next,.slice a l.length cap] 27)) ((w.alloc (mq #[H next,.slice a l.length cap] 27)).alloc (mq (yx 2 s ty li qt ii pr tg).toArray 33)):=(Below.refl _ _).alloc (by rw[xJ];omega) _;have xv:Hid (yn w ((w.alloc (mq #[H next,.slice a l.length cap] 27)).alloc (mq (yx 2 s ty li qt ii pr tg).toArray 33))):=(mn _ _).alloc (by rw[xJ];omega) _;have HX:Hid (_/\_):=⟨zc r1 qH (by omega),r2⟩;have uy:Hid (w.heap.size<((w.alloc (mq #[H next,.slice a l.length cap] 27)).alloc (mq (yx 2 s ty li qt ii pr tg).toArray 33)).heap.size/\w.heap.size+1<((w.alloc (mq #[H next,.slice a l.length cap] 27)).alloc (mq (yx 2 s ty li qt ii pr tg).toArray 33)).heap.size):=⟨by omega,by omega⟩;clear xJ ug r1 r2 qH;go_enter Tryz.func152,Tryz.ntmps152;refine ms fun mR xE=>?_;go_wp2_with fail;refine U xE _ _ ?_;clear xE;generalize ((w.alloc (mq #[H next,.slice a l.length cap] 27)).alloc (mq (yx 2 s ty li qt ii pr tg).toArray 33))=X2 at xv HX uy |-;have HX:Hid (X2.rangeAt w.heap.size 0 [H next,.slice a l.length cap]/\X2.rangeAt (w.heap.size+1) 0 (yx 2 s ty li qt ii pr tg)):=U HX;obtain⟨o0,o1,o2,o3,o4,o5,o6,o7⟩:=yE (U HX).2;go_wp2_with fail;refine(iQ ⟨2,s,ty,li,qt,ii,pr,tg⟩ X2).mono ?_;have dI:cmdI ⟨2,s,ty,li,qt,ii,pr,tg⟩ = .iface 214 (.agg #[H ii]):=by simp[cmdI]
 rw [dI];clear dI;rintro e w4 ⟨rfl,xy⟩;have xF:=Z (mr (U xv) xy);have xH:Hid (w4.rangeAt w.heap.size 0 [H next,.slice a l.length cap]/\w4.rangeAt (w.heap.size + 1) 0 (yx 2 s ty li qt ii pr tg)/\w.heap.size < w4.heap.size/\w.heap.size + 1 < w4.heap.size):=⟨zc (U HX).1 xy (U uy).1,zc (U HX).2 xy (U uy).2,yK (U uy).1 xy.size,yK (U uy).2 xy.size⟩;clear xy o0 o1 o2 o3 o4 o5 o6 o7;go_wp2_with fail;have hm:∀ W:World,Sem.run Tryz.prog (method 390 214 (.agg #[H ii]) "loop.example/g00092/impl.told") W = .ok (235,.agg #[H ii]) W:=fun W=>by kernel_rfl
 have pT:Hid (yn w4 w4.drew):=(Below.refl _ _).drew;have xQ:=Z (fun W=>lz ⟨2,0,0,0,0,ii,0,⟨#[]⟩⟩ ⟨2,s,ty,li,qt,ii,pr,tg⟩ W);rw[U HSM] at xQ;unfold cmV at xQ;simp only at xQ;have pd:=Z (fun W=>toldCancel_any ii W);have qZ:Hid (∀V,yn w4 V->V.cell? (J (w.heap.size+1) 0)=some (H 2)/\V.cell? (J (w.heap.size+1) 1)=some (H s)/\V.cell? (J (w.heap.size+1) 2)=some (H ty)/\V.cell? (J (w.heap.size+1) 3)=some (H li)/\V.cell? (J (w.heap.size+1) 4)=some (H qt)/\V.cell? (J (w.heap.size+1) 5)=some (H ii)/\V.cell? (J (w.heap.size+1) 6)=some (yj pr)/\V.cell? (J (w.heap.size+1) 7)=some (yk tg)):=fun V hV=>⟨zc (U xH).2.1 hV (U xH).2.2.2 0 _ rfl,zc (U xH).2.1 hV (U xH).2.2.2 1 _ rfl,zc (U xH).2.1 hV (U xH).2.2.2 2 _ rfl,zc (U xH).2.1 hV (U xH).2.2.2 3 _ rfl,zc (U xH).2.1 hV (U xH).2.2.2 4 _ rfl,zc (U xH).2.1 hV (U xH).2.2.2 5 _ rfl,zc (U xH).2.1 hV (U xH).2.2.2 6 _ rfl,zc (U xH).2.1 hV (U xH).2.2.2 7 _ rfl⟩
 go_region_held3 (fun w'=>w'.cell? (J (w.heap.size+1) 0)=some (H 2)/\w'.cell? (J (w.heap.size+1) 1)=some (H s)/\w'.cell? (J (w.heap.size+1) 2)=some (H ty)/\w'.cell? (J (w.heap.size+1) 3)=some (H li)/\w'.cell? (J (w.heap.size+1) 4)=some (H qt)/\w'.cell? (J (w.heap.size+1) 5)=some (H ii)/\w'.cell? (J (w.heap.size+1) 6)=some (yj pr)/\w'.cell? (J (w.heap.size+1) 7)=some (yk tg)) (first|exact U qZ _ xo|exact U qZ _ (U pT)|go_keep) (first|(go_at_call 235;refine(U pd _).mono ?_;rintro e V5 ⟨rfl,uc⟩;have xo:=(U pT).trans uc)|(go_at_call 185;refine(U xQ _).mono ?_;rintro e V ⟨rfl,jm⟩;have xo:=xo.trans (jm.mono xo.size)))
 have xK:=Z (mr (U xF) xo);have z0:=zc (U xH).1 xo (U xH).2.2.1 0 _ rfl;have z1:=zc (U xH).1 xo (U xH).2.2.1 1 _ rfl;rw[Nat.zero_add] at z0 z1;have ta1:∀W:World,Sem.run Tryz.prog (Instr.typeAssert (.iface 214 (.agg #[H ii])) 209 63 true) W = .ok (.tuple #[.agg #[H 0,H 0,H 0,H 0,yj 0,yk ⟨#[]⟩],.bool false]) W:=fun W=>by kernel_rfl
 have ta2:∀W:World,Sem.run Tryz.prog (Instr.typeAssert (.iface 214 (.agg #[H ii])) 209 214 true) W = .ok (.tuple #[.agg #[H ii],.bool true]) W:=fun W=>by kernel_rfl
 clear xo pd xQ hm;cases sm
 ·go_wp2_with fail;go_ret;exact⟨rfl,U xK⟩
 ·have xM:w.heap.size<V.heap.size:=yL V (yq w 0) z0;have y0:World.cell? (V.alloc (mq #[H ii] 214)) (yq w 0)=some (H next):=(yW _ _ _ xM).trans z0;have y1:World.cell? (V.alloc (mq #[H ii] 214)) (yq w 1)=some (.slice a l.length cap):=(yW _ _ _ xM).trans z1;have qh:Hid (yn w (V.alloc (mq #[H ii] 214))):=(U xK).alloc (U xK).size _;clear z0 z1 xM;go_wp2_with fail;refine(idRefusal_any next _ l ii _ (zi (U HR) (U qh) ya)).mono ?_;rintro e w7 ⟨rfl,qE⟩;have qP:=Z (mr (U qh) qE);clear qE;go_wp2_with fail;go_ret;exact⟨rfl,U qP⟩
theorem refusal_3 (next:Int)(vb:Value)(l:List Od)(s ty li qt ii:Int)(pr:Nat)(tg:ByteArray)(w:World)(hr:RdR Od.vs 6 w vb l)(hs:SlOk vb)(X:GoodL l)(h0:0<=next)(D:next<=1000000)(ht:tg.size<=maxLen) :
  Calls Tryz.prog 152 #[.agg #[H next,vb],.agg (yx 3 s ty li qt ii pr tg).toArray] w fun e w'=>e=ym (H (if dY ⟨3,0,0,0,qt,ii,0,⟨#[]⟩⟩ ⟨3,s,ty,li,qt,ii,pr,tg⟩=true then redR l ii qt else 2))/\yn w w':=by
 have HR:=Z hr;have HG:=Z X;have jg:=Z hs;have vK:Hid (0<=next/\next<=1000000):=⟨h0,D⟩;have pz:=Z ht;obtain⟨a,cap,rfl,xC,hc⟩:=hr;clear hc X hs h0 D ht xC;generalize hsm:dY ⟨3,0,0,0,qt,ii,0,⟨#[]⟩⟩ ⟨3,s,ty,li,qt,ii,pr,tg⟩=sm;have HSM:=Z hsm;clear hsm;have xJ:=zf w (mq #[H next,.slice a l.length cap] 27);have ug:((w.alloc (mq #[H next,.slice a l.length cap] 27)).alloc (mq (yx 3 s ty li qt ii pr tg).toArray 33)).heap.size=w.heap.size+1+1:=by rw[zf,xJ]
 have r1:=zm w [H next,.slice a l.length cap] 27;have r2:=zm (w.alloc (mq #[H next,.slice a l.length cap] 27)) (yx 3 s ty li qt ii pr tg) 33;rw[xJ] at r2;have qH:Below (w.heap.size+1) (w.alloc (mq #[H next,.slice a l.length cap] 27)) ((w.alloc (mq #[H next,.slice a l.length cap] 27)).alloc (mq (yx 3 s ty li qt ii pr tg).toArray 33)):=(Below.refl _ _).alloc (by rw[xJ];omega) _;have xv:Hid (yn w ((w.alloc (mq #[H next,.slice a l.length cap] 27)).alloc (mq (yx 3 s ty li qt ii pr tg).toArray 33))):=(mn _ _).alloc (by rw[xJ];omega) _;have HX:Hid (_/\_):=⟨zc r1 qH (by omega),r2⟩;have uy:Hid (w.heap.size<((w.alloc (mq #[H next,.slice a l.length cap] 27)).alloc (mq (yx 3 s ty li qt ii pr tg).toArray 33)).heap.size/\w.heap.size+1<((w.alloc (mq #[H next,.slice a l.length cap] 27)).alloc (mq (yx 3 s ty li qt ii pr tg).toArray 33)).heap.size):=⟨by omega,by omega⟩;clear xJ ug r1 r2 qH;go_enter Tryz.func152,Tryz.ntmps152;refine ms fun mR xE=>?_;go_wp2_with fail;refine U xE _ _ ?_;clear xE;generalize ((w.alloc (mq #[H next,.slice a l.length cap] 27)).alloc (mq (yx 3 s ty li qt ii pr tg).toArray 33))=X2 at xv HX uy |-;have HX:Hid (X2.rangeAt w.heap.size 0 [H next,.slice a l.length cap]/\X2.rangeAt (w.heap.size+1) 0 (yx 3 s ty li qt ii pr tg)):=U HX;obtain⟨o0,o1,o2,o3,o4,o5,o6,o7⟩:=yE (U HX).2;go_wp2_with fail;refine(iQ ⟨3,s,ty,li,qt,ii,pr,tg⟩ X2).mono ?_;have dI:cmdI ⟨3,s,ty,li,qt,ii,pr,tg⟩ = .iface 216 (.agg #[H ii,H qt]):=by simp[cmdI]
 rw [dI];clear dI;rintro e w4 ⟨rfl,xy⟩;have xF:=Z (mr (U xv) xy);have xH:Hid (w4.rangeAt w.heap.size 0 [H next,.slice a l.length cap]/\w4.rangeAt (w.heap.size + 1) 0 (yx 3 s ty li qt ii pr tg)/\w.heap.size < w4.heap.size/\w.heap.size + 1 < w4.heap.size):=⟨zc (U HX).1 xy (U uy).1,zc (U HX).2 xy (U uy).2,yK (U uy).1 xy.size,yK (U uy).2 xy.size⟩;clear xy o0 o1 o2 o3 o4 o5 o6 o7;go_wp2_with fail;have hm:∀ W:World,Sem.run Tryz.prog (method 390 216 (.agg #[H ii,H qt]) "loop.example/g00092/impl.told") W = .ok (236,.agg #[H ii,H qt]) W:=fun W=>by kernel_rfl
 have pT:Hid (yn w4 w4.drew):=(Below.refl _ _).drew;have xQ:=Z (fun W=>lz ⟨3,0,0,0,qt,ii,0,⟨#[]⟩⟩ ⟨3,s,ty,li,qt,ii,pr,tg⟩ W);rw[U HSM] at xQ;unfold cmV at xQ;simp only at xQ;have pd:=Z (fun W=>toldReduce_any ii qt W);have qZ:Hid (∀V,yn w4 V->V.cell? (J (w.heap.size+1) 0)=some (H 3)/\V.cell? (J (w.heap.size+1) 1)=some (H s)/\V.cell? (J (w.heap.size+1) 2)=some (H ty)/\V.cell? (J (w.heap.size+1) 3)=some (H li)/\V.cell? (J (w.heap.size+1) 4)=some (H qt)/\V.cell? (J (w.heap.size+1) 5)=some (H ii)/\V.cell? (J (w.heap.size+1) 6)=some (yj pr)/\V.cell? (J (w.heap.size+1) 7)=some (yk tg)):=fun V hV=>⟨zc (U xH).2.1 hV (U xH).2.2.2 0 _ rfl,zc (U xH).2.1 hV (U xH).2.2.2 1 _ rfl,zc (U xH).2.1 hV (U xH).2.2.2 2 _ rfl,zc (U xH).2.1 hV (U xH).2.2.2 3 _ rfl,zc (U xH).2.1 hV (U xH).2.2.2 4 _ rfl,zc (U xH).2.1 hV (U xH).2.2.2 5 _ rfl,zc (U xH).2.1 hV (U xH).2.2.2 6 _ rfl,zc (U xH).2.1 hV (U xH).2.2.2 7 _ rfl⟩
 go_region_held3 (fun w'=>w'.cell? (J (w.heap.size+1) 0)=some (H 3)/\w'.cell? (J (w.heap.size+1) 1)=some (H s)/\w'.cell? (J (w.heap.size+1) 2)=some (H ty)/\w'.cell? (J (w.heap.size+1) 3)=some (H li)/\w'.cell? (J (w.heap.size+1) 4)=some (H qt)/\w'.cell? (J (w.heap.size+1) 5)=some (H ii)/\w'.cell? (J (w.heap.size+1) 6)=some (yj pr)/\w'.cell? (J (w.heap.size+1) 7)=some (yk tg)) (first|exact U qZ _ xo|exact U qZ _ (U pT)|go_keep) (first|(go_at_call 236;refine(U pd _).mono ?_;rintro e V5 ⟨rfl,uc⟩;have xo:=(U pT).trans uc)|(go_at_call 185;refine(U xQ _).mono ?_;rintro e V ⟨rfl,jm⟩;have xo:=xo.trans (jm.mono xo.size)))
 have xK:=Z (mr (U xF) xo);have z0:=zc (U xH).1 xo (U xH).2.2.1 0 _ rfl;have z1:=zc (U xH).1 xo (U xH).2.2.1 1 _ rfl;rw[Nat.zero_add] at z0 z1;have ta1:∀W:World,Sem.run Tryz.prog (Instr.typeAssert (.iface 216 (.agg #[H ii,H qt])) 209 63 true) W = .ok (.tuple #[.agg #[H 0,H 0,H 0,H 0,yj 0,yk ⟨#[]⟩],.bool false]) W:=fun W=>by kernel_rfl
 have ta2:∀W:World,Sem.run Tryz.prog (Instr.typeAssert (.iface 216 (.agg #[H ii,H qt])) 209 214 true) W = .ok (.tuple #[.agg #[H 0],.bool false]) W:=fun W=>by kernel_rfl
 have ta3:∀W:World,Sem.run Tryz.prog (Instr.typeAssert (.iface 216 (.agg #[H ii,H qt])) 209 216 true) W = .ok (.tuple #[.agg #[H ii,H qt],.bool true]) W:=fun W=>by kernel_rfl
 clear xo pd xQ hm;cases sm
 ·go_wp2_with fail;go_ret;exact⟨rfl,U xK⟩
 ·have xM:w.heap.size<V.heap.size:=yL V (yq w 0) z0;have y0:World.cell? (V.alloc (mq #[H ii,H qt] 216)) (yq w 0)=some (H next):=(yW _ _ _ xM).trans z0;have y1:World.cell? (V.alloc (mq #[H ii,H qt] 216)) (yq w 1)=some (.slice a l.length cap):=(yW _ _ _ xM).trans z1;have qh:Hid (yn w (V.alloc (mq #[H ii,H qt] 216))):=(U xK).alloc (U xK).size _;clear z0 z1 xM;go_wp2_with fail;refine(reduceRefusal_any next _ l ii qt _ (zi (U HR) (U qh) ya)).mono ?_;rintro e w7 ⟨rfl,qE⟩;have qP:=Z (mr (U qh) qE);clear qE;go_wp2_with fail;go_ret;exact⟨rfl,U qP⟩
theorem refusal_4 (next:Int)(vb:Value)(l:List Od)(s ty li qt ii:Int)(pr:Nat)(tg:ByteArray)(w:World)(hr:RdR Od.vs 6 w vb l)(hs:SlOk vb)(X:GoodL l)(h0:0<=next)(D:next<=1000000)(ht:tg.size<=maxLen) :
  Calls Tryz.prog 152 #[.agg #[H next,vb],.agg (yx 4 s ty li qt ii pr tg).toArray] w fun e w'=>e=ym (H (if dY ⟨4,0,0,0,0,0,0,⟨#[]⟩⟩ ⟨4,s,ty,li,qt,ii,pr,tg⟩=true then 0 else 2))/\yn w w':=by
 have HR:=Z hr;have HG:=Z X;have jg:=Z hs;have vK:Hid (0<=next/\next<=1000000):=⟨h0,D⟩;have pz:=Z ht;obtain⟨a,cap,rfl,xC,hc⟩:=hr;clear hc X hs h0 D ht xC;generalize hsm:dY ⟨4,0,0,0,0,0,0,⟨#[]⟩⟩ ⟨4,s,ty,li,qt,ii,pr,tg⟩=sm;have HSM:=Z hsm;clear hsm;have xJ:=zf w (mq #[H next,.slice a l.length cap] 27);have ug:((w.alloc (mq #[H next,.slice a l.length cap] 27)).alloc (mq (yx 4 s ty li qt ii pr tg).toArray 33)).heap.size=w.heap.size+1+1:=by rw[zf,xJ]
 have r1:=zm w [H next,.slice a l.length cap] 27;have r2:=zm (w.alloc (mq #[H next,.slice a l.length cap] 27)) (yx 4 s ty li qt ii pr tg) 33;rw[xJ] at r2;have qH:Below (w.heap.size+1) (w.alloc (mq #[H next,.slice a l.length cap] 27)) ((w.alloc (mq #[H next,.slice a l.length cap] 27)).alloc (mq (yx 4 s ty li qt ii pr tg).toArray 33)):=(Below.refl _ _).alloc (by rw[xJ];omega) _;have xv:Hid (yn w ((w.alloc (mq #[H next,.slice a l.length cap] 27)).alloc (mq (yx 4 s ty li qt ii pr tg).toArray 33))):=(mn _ _).alloc (by rw[xJ];omega) _;have HX:Hid (_/\_):=⟨zc r1 qH (by omega),r2⟩;have uy:Hid (w.heap.size<((w.alloc (mq #[H next,.slice a l.length cap] 27)).alloc (mq (yx 4 s ty li qt ii pr tg).toArray 33)).heap.size/\w.heap.size+1<((w.alloc (mq #[H next,.slice a l.length cap] 27)).alloc (mq (yx 4 s ty li qt ii pr tg).toArray 33)).heap.size):=⟨by omega,by omega⟩;clear xJ ug r1 r2 qH;go_enter Tryz.func152,Tryz.ntmps152;refine ms fun mR xE=>?_;go_wp2_with fail;refine U xE _ _ ?_;clear xE;generalize ((w.alloc (mq #[H next,.slice a l.length cap] 27)).alloc (mq (yx 4 s ty li qt ii pr tg).toArray 33))=X2 at xv HX uy |-;have HX:Hid (X2.rangeAt w.heap.size 0 [H next,.slice a l.length cap]/\X2.rangeAt (w.heap.size+1) 0 (yx 4 s ty li qt ii pr tg)):=U HX;obtain⟨o0,o1,o2,o3,o4,o5,o6,o7⟩:=yE (U HX).2;go_wp2_with fail;refine(iQ ⟨4,s,ty,li,qt,ii,pr,tg⟩ X2).mono ?_;have dI:cmdI ⟨4,s,ty,li,qt,ii,pr,tg⟩ = .iface 241 (.agg #[]):=by simp[cmdI]
 rw [dI];clear dI;rintro e w4 ⟨rfl,xy⟩;have xF:=Z (mr (U xv) xy);have xH:Hid (w4.rangeAt w.heap.size 0 [H next,.slice a l.length cap]/\w4.rangeAt (w.heap.size + 1) 0 (yx 4 s ty li qt ii pr tg)/\w.heap.size < w4.heap.size/\w.heap.size + 1 < w4.heap.size):=⟨zc (U HX).1 xy (U uy).1,zc (U HX).2 xy (U uy).2,yK (U uy).1 xy.size,yK (U uy).2 xy.size⟩;clear xy o0 o1 o2 o3 o4 o5 o6 o7;go_wp2_with fail;have hm:∀ W:World,Sem.run Tryz.prog (method 390 241 (.agg #[]) "loop.example/g00092/impl.told") W = .ok (240,.agg #[]) W:=fun W=>by kernel_rfl
 have pT:Hid (yn w4 w4.drew):=(Below.refl _ _).drew;have xQ:=Z (fun W=>lz ⟨4,0,0,0,0,0,0,⟨#[]⟩⟩ ⟨4,s,ty,li,qt,ii,pr,tg⟩ W);rw[U HSM] at xQ;unfold cmV at xQ;simp only at xQ;have pd:=Z (fun W=>toldDay_any W);have qZ:Hid (∀V,yn w4 V->V.cell? (J (w.heap.size+1) 0)=some (H 4)/\V.cell? (J (w.heap.size+1) 1)=some (H s)/\V.cell? (J (w.heap.size+1) 2)=some (H ty)/\V.cell? (J (w.heap.size+1) 3)=some (H li)/\V.cell? (J (w.heap.size+1) 4)=some (H qt)/\V.cell? (J (w.heap.size+1) 5)=some (H ii)/\V.cell? (J (w.heap.size+1) 6)=some (yj pr)/\V.cell? (J (w.heap.size+1) 7)=some (yk tg)):=fun V hV=>⟨zc (U xH).2.1 hV (U xH).2.2.2 0 _ rfl,zc (U xH).2.1 hV (U xH).2.2.2 1 _ rfl,zc (U xH).2.1 hV (U xH).2.2.2 2 _ rfl,zc (U xH).2.1 hV (U xH).2.2.2 3 _ rfl,zc (U xH).2.1 hV (U xH).2.2.2 4 _ rfl,zc (U xH).2.1 hV (U xH).2.2.2 5 _ rfl,zc (U xH).2.1 hV (U xH).2.2.2 6 _ rfl,zc (U xH).2.1 hV (U xH).2.2.2 7 _ rfl⟩
 go_region_held3 (fun w'=>w'.cell? (J (w.heap.size+1) 0)=some (H 4)/\w'.cell? (J (w.heap.size+1) 1)=some (H s)/\w'.cell? (J (w.heap.size+1) 2)=some (H ty)/\w'.cell? (J (w.heap.size+1) 3)=some (H li)/\w'.cell? (J (w.heap.size+1) 4)=some (H qt)/\w'.cell? (J (w.heap.size+1) 5)=some (H ii)/\w'.cell? (J (w.heap.size+1) 6)=some (yj pr)/\w'.cell? (J (w.heap.size+1) 7)=some (yk tg)) (first|exact U qZ _ xo|exact U qZ _ (U pT)|go_keep) (first|(go_at_call 240;refine(U pd _).mono ?_;rintro e V5 ⟨rfl,uc⟩;have xo:=(U pT).trans uc)|(go_at_call 185;refine(U xQ _).mono ?_;rintro e V ⟨rfl,jm⟩;have xo:=xo.trans (jm.mono xo.size)))
 have xK:=Z (mr (U xF) xo);have z0:=zc (U xH).1 xo (U xH).2.2.1 0 _ rfl;have z1:=zc (U xH).1 xo (U xH).2.2.1 1 _ rfl;rw[Nat.zero_add] at z0 z1;have ta1:∀W:World,Sem.run Tryz.prog (Instr.typeAssert (.iface 241 (.agg #[])) 209 63 true) W = .ok (.tuple #[.agg #[H 0,H 0,H 0,H 0,yj 0,yk ⟨#[]⟩],.bool false]) W:=fun W=>by kernel_rfl
 have ta2:∀W:World,Sem.run Tryz.prog (Instr.typeAssert (.iface 241 (.agg #[])) 209 214 true) W = .ok (.tuple #[.agg #[H 0],.bool false]) W:=fun W=>by kernel_rfl
 have ta3:∀W:World,Sem.run Tryz.prog (Instr.typeAssert (.iface 241 (.agg #[])) 209 216 true) W = .ok (.tuple #[.agg #[H 0,H 0],.bool false]) W:=fun W=>by kernel_rfl
 clear xo pd xQ hm;cases sm
 ·go_wp2_with fail;go_ret;exact⟨rfl,U xK⟩
 ·go_wp2_with fail;go_ret;exact⟨rfl,U xK⟩
def refR (next:Int)(l:List Od)(c:Cm):Int:=
 if c.k=1 then(if dY ⟨1,c.s,c.t,c.l,c.q,0,c.p,c.g⟩ c=true then newR next l c else 2)
 else if c.k=2 then(if dY ⟨2,0,0,0,0,c.i,0,⟨#[]⟩⟩ c=true then idR l c.i else 2)
 else if c.k=3 then(if dY ⟨3,0,0,0,c.q,c.i,0,⟨#[]⟩⟩ c=true then redR l c.i c.q else 2)
 else if c.k=4 then(if dY ⟨4,0,0,0,0,0,0,⟨#[]⟩⟩ c=true then 0 else 2)
 else 1
theorem refusal_any (next:Int)(vb:Value)(l:List Od)(c:Cm)(w:World)(hr:RdR Od.vs 6 w vb l)(hs:SlOk vb)(X:GoodL l)(h0:0<=next)(D:next<=1000000)(ht:c.g.size<=maxLen) :
  Calls Tryz.prog 152 #[.agg #[H next,vb],cmV c] w fun e w'=>e=ym (H (refR next l c))/\yn w w':=by
 obtain⟨kk,s,ty,li,qt,ii,pr,tg⟩:=c;unfold cmV;simp only at ht |-
 by_cases e1:kk=1
 ·subst e1;exact refusal_1 next vb l s ty li qt ii pr tg w hr hs X h0 D ht
 by_cases e2:kk=2
 ·subst e2;exact refusal_2 next vb l s ty li qt ii pr tg w hr hs X h0 D ht
 by_cases e3:kk=3
 ·subst e3;exact refusal_3 next vb l s ty li qt ii pr tg w hr hs X h0 D ht
 by_cases e4:kk=4
 ·subst e4;exact refusal_4 next vb l s ty li qt ii pr tg w hr hs X h0 D ht
 have uK:Hid (refR next l ⟨kk,s,ty,li,qt,ii,pr,tg⟩=1):=by show _ = _;simp[refR,e1,e2,e3,e4]
 have dI:cmdI ⟨kk,s,ty,li,qt,ii,pr,tg⟩ = .nilIface:=by simp[cmdI,e1,e2,e3,e4]
 obtain⟨a,cap,rfl,xC,hc⟩:=hr;clear hc X hs h0 D ht xC e1 e2 e3 e4;have xJ:=zf w (mq #[H next,.slice a l.length cap] 27);have ug:((w.alloc (mq #[H next,.slice a l.length cap] 27)).alloc (mq (yx kk s ty li qt ii pr tg).toArray 33)).heap.size=w.heap.size+1+1:=by rw[zf,xJ]
 have r1:=zm w [H next,.slice a l.length cap] 27;have r2:=zm (w.alloc (mq #[H next,.slice a l.length cap] 27)) (yx kk s ty li qt ii pr tg) 33;rw[xJ] at r2;have qH:Below (w.heap.size+1) (w.alloc (mq #[H next,.slice a l.length cap] 27)) ((w.alloc (mq #[H next,.slice a l.length cap] 27)).alloc (mq (yx kk s ty li qt ii pr tg).toArray 33)):=(Below.refl _ _).alloc (by rw[xJ];omega) _;have xv:Hid (yn w ((w.alloc (mq #[H next,.slice a l.length cap] 27)).alloc (mq (yx kk s ty li qt ii pr tg).toArray 33))):=(mn _ _).alloc (by rw[xJ];omega) _;have HX:Hid (_/\_):=⟨zc r1 qH (by omega),r2⟩;have uy:Hid (w.heap.size<((w.alloc (mq #[H next,.slice a l.length cap] 27)).alloc (mq (yx kk s ty li qt ii pr tg).toArray 33)).heap.size/\w.heap.size+1<((w.alloc (mq #[H next,.slice a l.length cap] 27)).alloc (mq (yx kk s ty li qt ii pr tg).toArray 33)).heap.size):=⟨by omega,by omega⟩;clear xJ ug r1 r2 qH;go_enter Tryz.func152,Tryz.ntmps152;refine ms fun mR xE=>?_;go_wp2_with fail;refine U xE _ _ ?_;clear xE;generalize ((w.alloc (mq #[H next,.slice a l.length cap] 27)).alloc (mq (yx kk s ty li qt ii pr tg).toArray 33))=X2 at xv HX uy |-;have HX:Hid (X2.rangeAt w.heap.size 0 [H next,.slice a l.length cap]/\X2.rangeAt (w.heap.size+1) 0 (yx kk s ty li qt ii pr tg)):=U HX;have k0:X2.cell? (yq w 0)=some (H next):=(U HX).1 0 _ rfl;have k1:X2.cell? (yq w 1)=some (.slice a l.length cap):=(U HX).1 1 _ rfl;obtain⟨o0,o1,o2,o3,o4,o5,o6,o7⟩:=yE (U HX).2;go_wp2_with fail;refine(iQ ⟨kk,s,ty,li,qt,ii,pr,tg⟩ X2).mono ?_;rw[dI];clear dI;rintro e w4 ⟨rfl,xy⟩;have xF:=Z (mr (U xv) xy);clear xy;go_wp2_with fail;go_ret;exact⟨zB (U uK).symm,U xF⟩
theorem gG (t:Int)(w:World) :
  Calls Tryz.prog 42 #[H t] w fun e w'=>e=ym (.bool (dT t))/\w'=w:=by
 by_cases D:t=1
 ·subst D;go_enter Tryz.func42,Tryz.ntmps42;go_wp2_with fail;go_ret;exact⟨rfl,rfl⟩
 have b1:(t==1)=false:=by rw[xe];exact D
 have HK:Hid (dT t=(t==5)):=by
  show _ = _
  by_cases h5:t=5 <;> simp[dT,D,h5]
 clear D;go_enter Tryz.func42,Tryz.ntmps42;go_wp2_with fail;go_ret;exact⟨zp (U HK).symm,rfl⟩
def fw (sd tk:Int)(o:Od):Bool:=if tk=0 then true else if sd=1 then decide (o.ticks<=tk) else decide (tk<=o.ticks)
theorem l04Crosses_any (sd tk:Int)(o:Od)(w:World) :
  Calls Tryz.prog 115 #[H sd,H tk,.agg (yw o.id o.side o.ticks o.left o.life o.tag).toArray] w fun e w'=>e=ym (.bool (fw sd tk o))/\yn w w':=by
 obtain⟨id,side,ticks,left,life,tag⟩:=o;simp only
 by_cases h0:tk=0
 ·subst h0;go_enter Tryz.func115,Tryz.ntmps115;go_wp2_with fail;go_ret;exact⟨rfl,by go_grown⟩
 have b0:(tk==0)=false:=by rw[xe];exact h0
 by_cases D:sd=1
 ·subst D;have HK:Hid (fw 1 tk ⟨id,side,ticks,left,life,tag⟩=decide (ticks<=tk)):=by show _ = _;simp[fw,h0]
  clear h0;go_enter Tryz.func115,Tryz.ntmps115;go_wp2_with fail;go_ret;exact⟨zp (U HK).symm,by go_grown⟩
 have b1:(sd==1)=false:=by rw[xe];exact D
 have HK:Hid (fw sd tk ⟨id,side,ticks,left,life,tag⟩=decide (tk<=ticks)):=by show _ = _;simp[fw,h0,D]
 clear h0 D;go_enter Tryz.func115,Tryz.ntmps115;go_wp2_with fail;go_ret;exact⟨zp (U HK).symm,by go_grown⟩
theorem fV (v:Value)(l:List Od)(id:Int)(w:World)(hr:RdR Od.vs 6 w v l) :
  Calls Tryz.prog 37 #[v,H id] w fun e w'=>e=ym (H (plc l id))/\yn w w':=by
 obtain⟨a,cap,rfl,xC,hc⟩:=hr
 have xt:∀(k:Nat) (c:Od),l[k]? = some c->∃b off,a=some (J b off)/\b<w.heap.size/\w.rangeAt b (off+k*6) c.vs:=by
  intro k c hk;obtain⟨b,off,D,Y,h3⟩:=hc (by intro h;rw[h] at hk;simp at hk);exact⟨b,off,D,Y,h3 k c hk⟩
 have HC:=Z xt;clear xt hc;go_enter Tryz.func37,Tryz.ntmps37;go_wp2_with fail;go_loopw [5] (fun iv wr=>∃(k:Nat),k<=l.length/\iv=H k/\Hid (plc l id=plcF id (l.drop k) k)/\yn w wr) (fun iv _=>l.length-(intOf iv).toNat)
 case atStart=>exact⟨0,Nat.zero_le _,rfl,rfl,Below.refl _ _⟩
 case round =>
  obtain⟨k,hk,rfl,uA,xo⟩:=hrel;have HB:=Z xo;clear xo
  by_cases xM:k<l.length
  ·obtain⟨c,vf⟩:∃c,l[k]? = some c:=⟨_,yI xM⟩
   have HP:Hid (plc l id=if c.id=id then(k:Int) else plcF id (l.drop (k+1)) (k+1)):=by
    have:=U uA;rw[drop_get vf] at this;exact this
   obtain⟨b,off,rfl,E,xn⟩:=U HC k c vf;obtain⟨g0,g1,g2,g3,g4,g5⟩:=zF (zc xn (U HB) E);have uL:(k:Int)<l.length:=by omega
   clear vf xn E uA
   by_cases uk:c.id=id
   ·have E:(c.id==id)=true:=by simpa using uk
    have HK:Hid (plc l id=k):=by have:=U HP;rw[if_pos uk] at this;exact this
    clear uk;go_wp2_with fail;go_ret;exact⟨zB (U HK).symm,U HB⟩
   ·have E:(c.id==id)=false:=by simpa using uk
    have HK:Hid (plc l id=plcF id (l.drop (k+1)) (k+1)):=by have:=U HP;rw[if_neg uk] at this;exact this
    clear uk;go_wp2_with fail;go_roundw
    case rel=>exact⟨k+1,by omega,by go_num,U HK,U HB⟩
    case measure=>simp[intOf];omega
  ·have HK:Hid (plc l id = -1):=by
    have h:=U uA;rw[xb (by omega)] at h;exact h
   go_wp2_with fail;go_ret;exact⟨zB (U HK).symm,U HB⟩
theorem l04Zero_any (x:Nat)(w:World) :
  Calls Tryz.prog 118 #[yj x] w fun e w'=>e=ym (.bool (decide (fbit x=0)))/\w'=w:=by
 have HL:=Z (fun w=>bitsS_any x w);generalize fbit x=u at *
 have hdec:decide (u=0)=(((u:Nat):Int)==0):=by
  by_cases h:u=0 <;> simp[h]
 go_enter Tryz.func118,Tryz.ntmps118;go_wp2_with fail;refine(U HL _).mono ?_;rintro e w' ⟨rfl,rfl⟩;have HD:=Z hdec;clear hdec;go_wp2_with fail;go_ret;exact⟨zp (U HD).symm,rfl⟩
theorem lQ (next:Int)(a:Option Addr)(n cap:Nat)(c:Cm)(w:World) :
  Calls Tryz.prog 41 #[.agg #[H next,.slice a n cap],cmV c] w fun e w'=>e=ym (.agg (yw next c.s (tkS c.p) c.q c.l c.g).toArray)/\yn w w':=by
 obtain⟨k,s,t,l,q,i,p,g⟩:=c;unfold cmV;simp only;have HT:=Z (fun W=>l01Ticks_any p W);generalize tkS p=tt at HT |-;generalize tkOk p=tb at HT;go_enter Tryz.func41,Tryz.ntmps41;go_wp2_with fail;refine(U HT _).mono ?_;rintro e w' ⟨rfl,rfl⟩;go_wp2_with fail;go_returns;exact⟨rfl,by go_grown⟩
end Go.Proofs.YthhkapcbocgcoaaGreatDoor
