/-.-/
import Derived.Test.YthhkapcbocgcoaaGreatDoorKj15
import Derived.Test.YthhkapcbocgcoaaGreatDoorKj16
set_option linter.unusedVariables false
set_option maxHeartbeats 6400000
set_option maxRecDepth 100000
namespace Go.Proofs.YthhkapcbocgcoaaGreatDoor
open Go.RowKit
theorem take_zero (B:Nat)(k:Nat)(a:Option Addr)(len cap:Nat)(w:World)(hr:Rdr B w (.slice a len cap) k)(D:k<=len)(hl:len<=1073741824)(ur:len<=cap) :
  Calls Tryz.prog 144 #[.pointer (some ⟨B,0,none⟩),H 0] w fun e w'=>(∃a' c',e = .returned (.slice a' 0 c'))/\∃q,w'=(w.setCell ⟨B,1,none⟩ (H k)).drewN q:=by
 obtain⟨c1,c2,c3⟩:=hr;have h1':(k:Int)<=len:=by omega
 have dD:¬ ((len:Int)-k<0):=by omega
 have h3':(k:Int)<=cap:=by omega
 go_enter Tryz.func144,Tryz.ntmps144;go_wp2_with fail;go_quiet (fail);go_wp2_with fail;go_quiet (fail);go_wp2_with fail
 all_goals go_ret
 all_goals exact⟨⟨_,_,by simp;exact⟨rfl,rfl⟩⟩,_,rfl⟩
def textA (l:List Int)(k:Nat):Option (ByteArray × Nat):=
 match getU l k with
 | none=>none
 | some (u,n)=>if unz u<0\/13<unz u\/(l.length:Int)-n<unz u then none else some (strB ((l.drop n).take (unz u).toNat),n+(unz u).toNat)
theorem textA_no {l:List Int}{k:Nat}(h:getU l k=none):textA l k=none:=by unfold textA;rw[h]
theorem textA_bad {l:List Int}{k u n:Nat}(h:getU l k=some (u,n))(E:unz u<0\/13<unz u\/(l.length:Int)-n<unz u):textA l k=none:=by
 unfold textA;rw[h];simp only;rw[if_pos E]
theorem textA_yes {l:List Int}{k u n:Nat}(h:getU l k=some (u,n))(E:¬ (unz u<0\/13<unz u\/(l.length:Int)-n<unz u)) :
  textA l k=some (strB ((l.drop n).take (unz u).toNat),n+(unz u).toNat):=by
 unfold textA;rw[h];simp only;rw[if_neg E]
theorem getU_le:∀(f i u:Nat) (l:List Int) (k v n:Nat),scan l k f i u=some (v,n)->n<=l.length/\k<=n
 | 0,_,_,_,_,_,_,h=>by simp[scan] at h
 | f+1,i,u,l,k,v,n,h=>by
  rw[scan] at h;split at h
  ·cases h
  ·split at h
   ·cases h
   ·split at h
    ·simp only[Option.some.injEq,Prod.mk.injEq] at h;omega
    ·exact getU_le f (i+1) _ l k v n h
def TxtEnd (B:Nat)(v:Value)(w:World)(r:Option (ByteArray × Nat))(e:Ending)(w':World):Prop:=
 w.grownBy w' (some B)/\(∀s next,r=some (s,next)->e = .returned (yk s)/\Rdr B w' v next)/\(r=none->∃p,e = .panicked (fo 3 p))
theorem lW {B:Nat}{v:Value}{w w':World}{r:Option (ByteArray × Nat)}(X:w.grownBy w' (some B))(hr:r=none)(p:Int):TxtEnd B v w r (.panicked (fo 3 p)) w':=
 ⟨X,(fun _ _ h=>by rw[hr] at h;cases h),fun _=>⟨p,rfl⟩⟩
theorem piece_rd {w:World}{b off cap n c:Nat}{l:List Int}(h:∀i,i<l.length->w.cell? ⟨b,off+i,none⟩=some (.int .u8 (l.getD i 0)))(hn:n+c<=l.length)(hl:l.length<=65536) :
  Rd w (.slice (some ⟨b,off+n,none⟩) c cap) ((l.drop n).take c):=by
 have xC:((l.drop n).take c).length=c:=by rw[List.length_take,List.length_drop];omega
 refine⟨_,cap,by rw[xC],by omega,fun _=>⟨b,off+n,rfl,fun i hi=>?_⟩⟩;rw[xC] at hi;have:=h (n+i) (by omega);rw[Nat.add_assoc,this];have e:((l.drop n).take c).getD i 0=l.getD (n+i) 0:=by simp[hi,List.getElem?_drop]
 rw[e]
theorem txtEnd_done {B:Nat}{v:Value}{w w':World}{r:Option (ByteArray × Nat)}{s:ByteArray}{n:Nat}(X:w.grownBy w' (some B))(hr:r=some (s,n))(h:Rdr B w' v n):TxtEnd B v w r (.returned (yk s)) w':=
 ⟨X,(fun a b h'=>by rw[hr] at h';cases h';exact⟨rfl,h⟩),(fun h'=>by rw[hr] at h';cases h')⟩
theorem text_any (B:Nat)(v:Value)(l:List Int)(k:Nat)(w w0:World)(xS:Rd w v l)(ur:CapOk v)(jl:w.heap.size<=B)(xo:yn w w0)(hr:Rdr B w0 v k)(hk:k<=l.length)(hl:l.length<=65536)(E:Bts l) :
  Calls Tryz.prog 179 #[.pointer (some ⟨B,0,none⟩)] w0 fun e w'=>TxtEnd B v w0 (textA l k) e w':=by
 have HN:=Z (number_any B v l k w w0 xS ur jl xo hr hk hl E);have HRd:=Z xS;have HBl:=Z xo;have hv:=rd_len xS;have HCap:=Z ur;clear xS xo hr ur;go_enter Tryz.func179,Tryz.ntmps179;go_wp2_with fail;refine(U HN).mono ?_;rintro e w1 hN;cases X:getU l k with
 | none =>
  obtain⟨p,rfl⟩:=hN.2.2 X;have HG:=Z hN.1;have HT:=Z (textA_no X);clear hN X;go_wp2_with fail;exact⟨rfl,lW (U HG) (U HT) _⟩
 | some x =>
  obtain⟨u,n⟩:=x;obtain⟨rfl,hrn⟩:=hN.2.1 u n X;have HG:=Z hN.1;have qY:=Z hrn;have qS:=getU_le 10 0 0 l k u n X;have bY:=Z (fun h=>textA_bad X h);have HYes:=Z (fun h=>textA_yes X h);clear hN hrn X;generalize unz u=z at *;obtain⟨hn1,hn2⟩:=qS
  by_cases hbad:z<0\/13<z
  ·have HT:=Z (U bY (by omega));rcases(show z<0\/(0<=z/\13<z) by omega) with D|⟨D,Y⟩
   all_goals
    clear hbad;go_wp2_with fail;refine(gC B 3 _ _ _ (U qY)).mono ?_;rintro e w2 ⟨rfl,rfl⟩;go_wp2_with fail;exact⟨rfl,lW (U HG) (U HT) _⟩
  ·obtain⟨c,rfl⟩:=Int.eq_ofNat_of_zero_le (show 0<=z by omega);have hc13:(c:Int)<=13:=by omega
   clear hbad;obtain⟨a,cap,hva⟩:=hv
   by_cases hlong:(l.length:Int)-n<c
   ·have HT:=Z (U bY (by omega));rw[hva] at qY;go_wp2_with fail;refine(take_end B c n a l.length cap _ (U qY) (by omega) (by omega) (by omega) hlong (by omega)).mono ?_;rintro e w2 ⟨rfl,q,rfl⟩;go_wp2_with fail;exact⟨rfl,lW (zw (U HG) (ft _ _ _)) (U HT) _⟩
   ·have HY:=Z (U HYes (by omega));rw[Int.toNat_natCast] at HY;rw[hva] at qY
    by_cases oC:c=0
    ·subst oC;go_wp2_with fail;refine(take_zero B n a l.length cap _ (U qY) (by omega) (by omega) ((U HCap) _ _ _ hva)).mono ?_;rintro e w2 ⟨⟨a',c',rfl⟩,q,rfl⟩;have hcv:=fun W=>conv_text (.slice a' 0 c') [] W ⟨a',c',rfl,by simp,fun h=>absurd rfl h⟩;have HRw:=Z (((U qY).step (n:Int)).drewN q);have HGw:=Z (zw (U HG) (zw (dX w1 ⟨B,1,none⟩ (H (n:Int))) (ft _ q _)));have HY':Hid (textA l k=some (strB [],n)):=U HY;generalize strB []=s at *;have HVA:=Z hva;clear hva;go_wp2_with fail;go_ret;exact txtEnd_done (U HGw) (U HY') (by rw[U HVA];exact U HRw)
    ·have xr:l ≠ []:=by intro h;rw[h] at hn1 hlong;simp at hn1 hlong;omega
     obtain⟨a2,cap2,e2,_,xt⟩:=U HRd;rw[hva] at e2;simp only[Value.slice.injEq,true_and] at e2;obtain⟨rfl,rfl⟩:=e2;obtain⟨b,off,rfl,xn⟩:=xt xr;have pl:b<w.heap.size:=yL w _ (xn 0 (List.length_pos_iff.2 xr))
     have cK:∀i,i<l.length->w1.cell? ⟨b,off+i,none⟩=some (.int .u8 (l.getD i 0)):=fun i hi =>
      (U HG).cell (((U HBl).cell (p:=⟨b,off+i,none⟩) pl).trans (xn i hi)) (by show some b≠some B;intro e;injection e;omega)
     go_wp2_with fail;refine(take_ok B c n b off l.length cap _ (U qY) (by omega) (by omega) ((U HCap) _ _ _ hva) (by omega)).mono ?_;rintro e w2 ⟨rfl,q,rfl⟩
     have hcl2:∀i,i<l.length->((w1.setCell ⟨B,1,none⟩ (H (n+c:Nat))).drewN q).cell? ⟨b,off+i,none⟩=some (.int .u8 (l.getD i 0)):=fun i hi=>by
      rw[World.cell?_drewN,yM _ _ _ _ (by intro e;injection e;omega)];exact cK i hi
     have hcv:=conv_text _ _ _ (piece_rd (cap:=cap-n) hcl2 (show n+c<=l.length by omega) hl);simp only[Int.natCast_add] at hcv;have HRw:=Z (((U qY).step ((n+c:Nat):Int)).drewN q);have HGw:=Z (zw (U HG) (zw (dX w1 ⟨B,1,none⟩ (H ((n+c:Nat):Int))) (ft _ q _)));generalize strB ((l.drop n).take c)=s at *;clear cK hcl2 xn xt;have HVA:=Z hva;clear hva;go_wp2_with fail;go_ret;exact txtEnd_done (U HGw) (U HY) (by rw[U HVA];exact U HRw)
theorem shapeN_any (k:Int)(w:World)(h:¬ (1<=k/\k<=9)):Calls Tryz.prog 45 #[H k] w fun e w'=>fy k w e w':=by
 have HE:Hid (∀w',yn w w'->fy k w (.returned (.agg #[H 0,.slice none 0 0])) w'):=fun w' E=>by
  have D:shC k=0:=if_neg (by omega);have Y:shF k = []:=by unfold shF;rw[if_neg (by omega),if_neg (by omega),if_neg (by omega),if_neg (by omega),if_neg (by omega)]
  unfold fy;rw[D,Y];exact⟨_,[],rfl,⟨none,0,rfl,by simp,fun h=>absurd rfl h⟩,trivial,E⟩
 have e1:(k==1)=false:=xe.2 (by omega);have e2:(k==2)=false:=xe.2 (by omega);have e3:(k==3)=false:=xe.2 (by omega);have e4:(k==4)=false:=xe.2 (by omega);have e5:(k==5)=false:=xe.2 (by omega);have e6:(k==6)=false:=xe.2 (by omega);have e7:(k==7)=false:=xe.2 (by omega);have e8:(k==8)=false:=xe.2 (by omega);have e9:(k==9)=false:=xe.2 (by omega);clear h;go_enter Tryz.func45,Tryz.ntmps45;go_wp2_with fail;go_returns;exact U HE _ (by go_grown)
theorem shape_any (k:Int)(w:World):Calls Tryz.prog 45 #[H k] w fun e w'=>fy k w e w':=by
 by_cases h:1<=k/\k<=9
 ·rcases(show k=1\/k=2\/k=3\/k=4\/k=5\/k=6\/k=7\/k=8\/k=9 by omega) with rfl|rfl|rfl|rfl|rfl|rfl|rfl|rfl|rfl
  ·exact shape1_any w
  ·exact shape2_any w
  ·exact shape3_any w
  ·exact shape4_any w
  ·exact shape5_any w
  ·exact shape6_any w
  ·exact shape7_any w
  ·exact shape8_any w
  ·exact shape9_any w
 ·exact shapeN_any k w h
structure RSr (wb:World) (xi:Nat) (v:Value) (l:List Int) (k:Nat) (W:World):Prop where
 rd:Rd wb v l
 cap:CapOk v
 le:wb.heap.size<=xi
 bel:Below wb.heap.size wb W
 r:Rdr xi W v k
 kk:k<=l.length
 ll:l.length<=65536
 bb:Bts l
theorem RSr.lt {wb:World}{xi:Nat}{v:Value}{l:List Int}{k:Nat}{W:World}(h:RSr wb xi v l k W):xi<W.heap.size:=yL W _ h.r.1
theorem RSr.go {wb:World}{xi:Nat}{v:Value}{l:List Int}{k n:Nat}{W W':World}(h:RSr wb xi v l k W)(X:W.grownBy W' (some xi))(hr:Rdr xi W' v n)(hn:n<=l.length):RSr wb xi v l n W':=
 ⟨h.rd,h.cap,h.le,h.bel.trans (gr_below X h.le h.bel.size),hr,hn,h.ll,h.bb⟩
theorem RSr.keep {wb:World}{xi:Nat}{v:Value}{l:List Int}{k:Nat}{W W':World}(h:RSr wb xi v l k W)(E:yn wb W')(hr:Rdr xi W' v k):RSr wb xi v l k W':=⟨h.rd,h.cap,h.le,E,hr,h.kk,h.ll,h.bb⟩
theorem RSr.below {wb:World}{xi C:Nat}{v:Value}{l:List Int}{k:Nat}{W W':World}(h:RSr wb xi v l k W)(E:Below C W W')(hC:xi<C):RSr wb xi v l k W':=
 h.keep (h.bel.trans (E.mono (Nat.le_of_lt (Nat.lt_of_le_of_lt h.le hC)))) (iK h.r E hC)
theorem number_rs {wb:World}{xi:Nat}{v:Value}{l:List Int}{k:Nat}{W:World}(h:RSr wb xi v l k W):Calls Tryz.prog 175 #[.pointer (some ⟨xi,0,none⟩)] W fun e w'=>NumEnd xi v W (getU l k) e w':=
 number_any xi v l k wb W h.rd h.cap h.le h.bel h.r h.kk h.ll h.bb
theorem float_rs {wb:World}{xi:Nat}{v:Value}{l:List Int}{k:Nat}{W:World}(h:RSr wb xi v l k W):Calls Tryz.prog 177 #[.pointer (some ⟨xi,0,none⟩)] W fun e w'=>FltEnd xi v W (fJ l k) e w':=
 float_any xi v l k wb W h.rd h.cap h.le h.bel h.r h.kk h.ll h.bb
theorem text_rs {wb:World}{xi:Nat}{v:Value}{l:List Int}{k:Nat}{W:World}(h:RSr wb xi v l k W):Calls Tryz.prog 179 #[.pointer (some ⟨xi,0,none⟩)] W fun e w'=>TxtEnd xi v W (textA l k) e w':=
 text_any xi v l k wb W h.rd h.cap h.le h.bel h.r h.kk h.ll h.bb
theorem floatA_le {l:List Int}{k x n:Nat}(h:fJ l k=some (x,n)):n<=l.length/\k<=n:=by
 unfold fJ at h;split at h
 ·cases h
 ·split at h
  ·cases h
  ·simp only[Option.some.injEq,Prod.mk.injEq] at h;omega
theorem textA_le {l:List Int}{k n:Nat}{s:ByteArray}(h:textA l k=some (s,n)):n<=l.length/\k<=n:=by
 unfold textA at h;split at h
 ·cases h
 ·next u m hm =>
  have:=getU_le 10 0 0 l k u m hm;split at h
  ·cases h
  ·simp only[Option.some.injEq,Prod.mk.injEq] at h;omega
def rdF (o:Nat)(l:List Int)(k:Nat):Option (Value × Nat):=
 if o=7 then(fJ l k).map fun x=>(yj x.1,x.2) else if o=8 then(textA l k).map fun x=>(yk x.1,x.2) else(getU l k).map fun x=>(H (unz x.1),x.2)
structure Gr2 (xi hb:Nat) (w w':World):Prop where
 os:w'.os=w.os
 tape:w'.tape=w.tape
 output:w'.output=w.output
 size:w.heap.size<=w'.heap.size
 block:∀i,i<w.heap.size->i≠xi->i≠hb->w'.heap[i]? = w.heap[i]?
theorem gr2_gr {xi hb:Nat}{w w':World}(h:w.grownBy w' (some xi)):Gr2 xi hb w w':=⟨h.os,h.tape,h.output,h.size,fun i hi L _=>h.block i hi (by simpa using L)⟩
theorem gr2_set {xi hb j:Nat}{u:Value}{w w':World}(h:Gr2 xi hb w w'):Gr2 xi hb w (w'.setCell ⟨hb,j,none⟩ u):=
 ⟨h.os,h.tape,h.output,by have:=h.size;simpa[World.setCell] using this,fun i hi L hE=>by rw[yT _ _ _ _ (by show i≠hb;exact hE)];exact h.block i hi L hE⟩
theorem gr2_on {xi hb:Nat}{w W W':World}(h:w.grownBy W (some xi))(Y:Gr2 xi hb W W')(hE:w.heap.size<=hb):w.grownBy W' (some xi):=
 ⟨Y.os.trans h.os,Y.tape.trans h.tape,Y.output.trans h.output,yO h.size Y.size,fun i hi L=>by
  rw[Y.block i (yK hi h.size) (by simpa using L) (by omega)];exact h.block i hi L⟩
def FdEnd (wb:World)(xi hb:Nat)(v:Value)(l:List Int)(o:Nat)(vs:List Value)(W:World)(r:Option (Value × Nat))(e:Ending)(w':World):Prop:=
 Gr2 xi hb W w'/\(∀x n,r=some (x,n)->e = .returned (.tuple #[])/\RSr wb xi v l n w'/\Bx w' hb (vs.set o x))/\(r=none->∃p,e = .panicked (fo 3 p))
theorem fdEnd_fail {wb:World}{xi hb:Nat}{v:Value}{l:List Int}{o:Nat}{vs:List Value}{W w':World}{r:Option (Value × Nat)}(X:W.grownBy w' (some xi))(hr:r=none)(p:Int):FdEnd wb xi hb v l o vs W r (.panicked (fo 3 p)) w':=
 ⟨gr2_gr X,(fun _ _ h=>by rw[hr] at h;cases h),fun _=>⟨p,rfl⟩⟩
theorem fdEnd_done {wb:World}{xi hb:Nat}{v:Value}{l:List Int}{o k:Nat}{vs:List Value}{W w':World}{r:Option (Value × Nat)}{x:Value}{n:Nat}(hs:RSr wb xi v l k W)(hx:Bx W hb vs)(X:W.grownBy w' (some xi))(hE:xi<hb)(hr:r=some (x,n))(hn:n<=l.length)
  (h:Rdr xi w' v n) (Q:o<vs.length):FdEnd wb xi hb v l o vs W r (.returned (.tuple #[])) (w'.setCell ⟨hb,o,none⟩ x):=by
 have hEw:hb<W.heap.size:=by
  have:=(hx.t 0 (by omega)).1;obtain⟨y,hy⟩:=Option.isSome_iff_exists.1 this;exact yL W _ hy
 have hx':Bx w' hb vs:=dU hx (X.block hb hEw (by simp;omega));refine⟨gr2_set (gr2_gr X),(fun y m h'=>?_),(fun h'=>by rw[hr] at h';cases h')⟩;rw[hr] at h';cases h';have D:=hs.go X h hn;refine⟨rfl,D.keep ?_ ?_,fi hx' Q⟩
 ·exact D.bel.setCell (p:=⟨hb,o,none⟩) (show wb.heap.size<=hb from Nat.le_of_lt (Nat.lt_of_le_of_lt hs.le hE)) _
 ·exact rdr_grown h (dX w' ⟨hb,o,none⟩ x) (by show xi≠hb;omega)
theorem rdF_num {o k:Nat}{l:List Int}(h:plcO o=true):rdF o l k=(getU l k).map fun x=>(H (unz x.1),x.2):=by
 unfold plcO at h;unfold rdF;rw[if_neg (by intro e;subst e;simp at h),if_neg (by intro e;subst e;simp at h)]
theorem plc_enter (o:Nat)(h:plcO o=true)(args:Array Value)(W:World):(callFunc (plcV o) args).run Tryz.prog W = .ok (.enter (plcV o) args) W:=by
 rcases(show o=1\/o=2\/o=3\/o=4\/o=5\/o=6\/o=9\/o=10\/o=11\/o=12\/o=13 by simp[plcO] at h;omega) with rfl|rfl|rfl|rfl|rfl|rfl|rfl|rfl|rfl|rfl|rfl
 all_goals kernel_rfl
theorem readNum_any (wb:World)(xi hb b o:Nat)(v:Value)(l:List Int)(k:Nat)(vs:List Value)(W:World)(hs:RSr wb xi v l k W)(hx:Bx W hb vs)(hE:xi<hb)(Q:plcO o=true)(hv:vs.length=14)(hbR:xi≠b)(hc:W.cell? ⟨b,0,none⟩=some (.func (.func (plcV o)) #[] #[])) :
  Calls Tryz.prog 174 #[.pointer (some ⟨xi,0,none⟩),.pointer (some ⟨hb,0,none⟩),.pointer (some ⟨b,0,none⟩)] W fun e w'=>FdEnd wb xi hb v l o vs W (rdF o l k) e w':=by
 have oG:o<vs.length:=by unfold plcO at Q;simp at Q;omega
 have HP:=Z (fun W=>plc_any o hb W Q);have hpe:=plc_enter o Q;have HF:=Z (rdF_num (l:=l) (k:=k) Q);have HS:=Z hs;have HX:=Z hx;have HV:=Z hv;clear hs hx Q hv;generalize plcV o=f at *;go_enter Tryz.func174,Tryz.ntmps174;go_wp2_with fail;refine(U HP _).mono ?_;rintro e w1 ⟨rfl,qF⟩;rw[qF];clear qF;go_wp2_with fail;refine(number_rs (U HS)).mono ?_;rintro e w2 hN;cases X:getU l k with
 | none =>
  obtain⟨p,rfl⟩:=hN.2.2 X;have HG:=Z hN.1;have HT:Hid (rdF o l k=none):=(U HF).trans (by simp[X]);clear hN X;go_wp2_with fail;exact⟨rfl,fdEnd_fail (U HG) (U HT) _⟩
 | some x =>
  obtain⟨u,n⟩:=x;obtain⟨rfl,hrn⟩:=hN.2.1 u n X;have HG:=Z hN.1;have qY:=Z hrn;have HN:=Z (getU_le 10 0 0 l k u n X).1;have HT:Hid (rdF o l k=some (H (unz u),n)):=(U HF).trans (by simp[X]);clear hN hrn X
  have bD:Bx w2 hb vs:=dU (U HX) ((U HG).block hb (by
   obtain⟨y,hy⟩:=Option.isSome_iff_exists.1 ((U HX).t 0 (by omega)).1;exact yL W _ hy) (by simp;omega))
  have c0:=A bD o (yI oG);have f0:=zd bD o oG;clear bD;generalize unz u=z at *;go_wp2_with fail;go_end0;exact fdEnd_done (U HS) (U HX) (U HG) hE (U HT) (U HN) (U qY) oG
theorem readPrice_any (wb:World)(xi hb:Nat)(v:Value)(l:List Int)(k:Nat)(vs:List Value)(W:World)(hs:RSr wb xi v l k W)(hx:Bx W hb vs)(hE:xi<hb)(hv:vs.length=14) :
  Calls Tryz.prog 132 #[.pointer (some ⟨xi,0,none⟩),.pointer (some ⟨hb,0,none⟩)] W fun e w'=>FdEnd wb xi hb v l 7 vs W (rdF 7 l k) e w':=by
 have oG:7<vs.length:=by omega
 have HS:=Z hs;have HX:=Z hx;have HV:=Z hv;have hsf:=sfl;clear hs hx hv;go_enter Tryz.func132,Tryz.ntmps132;go_wp2_with fail;refine(float_rs (U HS)).mono ?_;rintro e w2 hN;cases X:fJ l k with
 | none =>
  obtain⟨p,rfl⟩:=hN.2.2 X;have HG:=Z hN.1;have HT:Hid (rdF 7 l k=none):=by show rdF 7 l k=none;simp[rdF,X]
  clear hN X;go_wp2_with fail;exact⟨rfl,fdEnd_fail (U HG) (U HT) _⟩
 | some x =>
  obtain⟨u,n⟩:=x;obtain⟨rfl,hrn⟩:=hN.2.1 u n X;have HG:=Z hN.1;have qY:=Z hrn;have HN:=Z (floatA_le X).1;have HT:Hid (rdF 7 l k=some (yj u,n)):=by show rdF 7 l k = _;simp[rdF,X]
  clear hN hrn X
  have bD:Bx w2 hb vs:=dU (U HX) ((U HG).block hb (by
   obtain⟨y,hy⟩:=Option.isSome_iff_exists.1 ((U HX).t 0 (by omega)).1;exact yL W _ hy) (by simp;omega))
  have c0:=A bD 7 (yI oG);have f0:=zd bD 7 oG;clear bD;go_wp2_with fail;go_end0;exact fdEnd_done (U HS) (U HX) (U HG) hE (U HT) (U HN) (U qY) oG
theorem readTag_any (wb:World)(xi hb:Nat)(v:Value)(l:List Int)(k:Nat)(vs:List Value)(W:World)(hs:RSr wb xi v l k W)(hx:Bx W hb vs)(hE:xi<hb)(hv:vs.length=14) :
  Calls Tryz.prog 134 #[.pointer (some ⟨xi,0,none⟩),.pointer (some ⟨hb,0,none⟩)] W fun e w'=>FdEnd wb xi hb v l 8 vs W (rdF 8 l k) e w':=by
 have oG:8<vs.length:=by omega
 have HS:=Z hs;have HX:=Z hx;have HV:=Z hv;clear hs hx hv;go_enter Tryz.func134,Tryz.ntmps134;go_wp2_with fail;refine(text_rs (U HS)).mono ?_;rintro e w2 hN;cases X:textA l k with
 | none =>
  obtain⟨p,rfl⟩:=hN.2.2 X;have HG:=Z hN.1;have HT:Hid (rdF 8 l k=none):=by show rdF 8 l k=none;simp[rdF,X]
  clear hN X;go_wp2_with fail;exact⟨rfl,fdEnd_fail (U HG) (U HT) _⟩
 | some x =>
  obtain⟨u,n⟩:=x;obtain⟨rfl,hrn⟩:=hN.2.1 u n X;have HG:=Z hN.1;have qY:=Z hrn;have HN:=Z (textA_le X).1;have HT:Hid (rdF 8 l k=some (yk u,n)):=by show rdF 8 l k = _;simp[rdF,X]
  clear hN hrn X
  have bD:Bx w2 hb vs:=dU (U HX) ((U HG).block hb (by
   obtain⟨y,hy⟩:=Option.isSome_iff_exists.1 ((U HX).t 0 (by omega)).1;exact yL W _ hy) (by simp;omega))
  have c0:=A bD 8 (yI oG);have f0:=zd bD 8 oG;clear bD;go_wp2_with fail;go_end0;exact fdEnd_done (U HS) (U HX) (U HG) hE (U HT) (U HN) (U qY) oG
theorem readField_any (wb w0:World)(cs xi hb o:Nat)(c:Fc)(v:Value)(l:List Int)(k:Nat)(vs:List Value)(W:World)(hs:RSr wb xi v l k W)(hx:Bx W hb vs)(hE:xi<hb)(hv:vs.length=14)(Q:o=7\/o=8\/plcO o=true)(hf:FF W cs o c)(hF:xi<cs) :
  Calls Tryz.prog c.n2 (#[.pointer (some ⟨xi,0,none⟩),.pointer (some ⟨hb,0,none⟩)]++c.l) W fun e w'=>FdEnd wb xi hb v l o vs W (rdF o l k) e w':=by
 unfold FF at hf;rcases Q with rfl|rfl|Q
 ·rw[if_pos rfl] at hf;subst hf;exact readPrice_any wb xi hb v l k vs W hs hx hE hv
 ·rw[if_neg (by decide),if_pos rfl] at hf;subst hf;exact readTag_any wb xi hb v l k vs W hs hx hE hv
 ·rw[if_neg (by intro e;subst e;simp[plcO] at Q),if_neg (by intro e;subst e;simp[plcO] at Q)] at hf;obtain⟨b,rfl,D,Y,h3⟩:=hf;exact readNum_any wb xi hb b o v l k vs W hs hx hE Q hv (by omega) h3
theorem field_enter (cs o:Nat)(c:Fc)(W:World)(hf:FF W cs o c)(args:Array Value)(V:World):(callFunc c.n2 args).run Tryz.prog V = .ok (.enter c.n2 args) V/\(callFunc c.n1 args).run Tryz.prog V = .ok (.enter c.n1 args) V:=by
 unfold FF at hf;split at hf
 ·subst hf;exact⟨by kernel_rfl,by kernel_rfl⟩
 ·split at hf
  ·subst hf;exact⟨by kernel_rfl,by kernel_rfl⟩
  ·obtain⟨b,rfl,_⟩:=hf;exact⟨by kernel_rfl,by kernel_rfl⟩
def Ev.put (e:Ev)(o:Nat)(x:Value):Ev:=match o,x with
 | 1,.int _ z=>{ e with cmd:={ e.cmd with k:=z } }
 | 2,.int _ z=>{ e with cmd:={ e.cmd with s:=z } }
 | 3,.int _ z=>{ e with cmd:={ e.cmd with t:=z } }
 | 4,.int _ z=>{ e with cmd:={ e.cmd with l:=z } }
 | 5,.int _ z=>{ e with cmd:={ e.cmd with q:=z } }
 | 6,.int _ z=>{ e with cmd:={ e.cmd with i:=z } }
 | 7,.float _ p=>{ e with cmd:={ e.cmd with p:=p } }
 | 8,.string s=>{ e with cmd:={ e.cmd with g:=s } }
 | 9,.int _ z=>{ e with id:=z }
 | 10,.int _ z=>{ e with other:=z }
 | 11,.int _ z=>{ e with qty:=z }
 | 12,.int _ z=>{ e with price:=z }
 | 13,.int _ z=>{ e with reason:=z }
 | _,_=>e
def TyO (o:Nat)(x:Value):Prop:=if o=7 then ∃p,x=yj p else if o=8 then ∃s,x=yk s else ∃z,x=H z
def EvO (o:Nat):Prop:=o=7\/o=8\/plcO o=true
theorem evs_put {o:Nat}{x:Value}(e:Ev)(Q:EvO o)(hx:TyO o x):e.vs.set o x=(e.put o x).vs:=by
 unfold EvO at Q;unfold TyO at hx;rcases(show o=7\/o=8\/o=1\/o=2\/o=3\/o=4\/o=5\/o=6\/o=9\/o=10\/o=11\/o=12\/o=13 by simp[plcO] at Q;omega) with rfl|rfl|rfl|rfl|rfl|rfl|rfl|rfl|rfl|rfl|rfl|rfl|rfl
 all_goals
  obtain⟨z,rfl⟩:=hx;rfl
theorem rdF_ty {o k n:Nat}{l:List Int}{x:Value}(h:rdF o l k=some (x,n)):TyO o x:=by
 unfold rdF at h;unfold TyO;split at h
 ·rw[if_pos ‹_›];obtain⟨⟨a,b⟩,D,Y⟩:=Option.map_eq_some_iff.1 h;cases Y;exact⟨_,rfl⟩
 ·rw[if_neg ‹_›];split at h
  ·rw[if_pos ‹_›];obtain⟨⟨a,b⟩,D,Y⟩:=Option.map_eq_some_iff.1 h;cases Y;exact⟨_,rfl⟩
  ·rw[if_neg ‹_›];obtain⟨⟨a,b⟩,D,Y⟩:=Option.map_eq_some_iff.1 h;cases Y;exact⟨_,rfl⟩
def rdEs:List Nat->Ev->List Int->Nat->Option (Ev × Nat)
 | [],e,_,k=>some (e,k)
 | o::os,e,l,k=>match rdF o l k with|none=>none|some (x,n)=>rdEs os (e.put o x) l n
theorem rdEs_none {o k:Nat}{os:List Nat}{e:Ev}{l:List Int}(h:rdF o l k=none):rdEs (o::os) e l k=none:=by rw[rdEs,h]
theorem rdEs_some {o k n:Nat}{os:List Nat}{e:Ev}{l:List Int}{x:Value}(h:rdF o l k=some (x,n)):rdEs (o::os) e l k=rdEs os (e.put o x) l n:=by rw[rdEs,h]
def ev0 (k:Int):Ev:=⟨k,⟨shC k,0,0,0,0,0,0,⟨#[]⟩⟩,0,0,0,0,0⟩
def evA (l:List Int)(k:Nat):Option (Ev × Nat):=
 if l.length<=k then none else if shF (l.getD k 0) = [] then none else rdEs (shF (l.getD k 0)) (ev0 (l.getD k 0)) l (k+1)
theorem evA_end {l:List Int}{k:Nat}(h:l.length<=k):evA l k=none:=if_pos h
theorem evA_no {l:List Int}{k:Nat}(h:k<l.length)(D:shF (l.getD k 0) = []):evA l k=none:=by unfold evA;rw[if_neg (by omega),if_pos D]
theorem evA_yes {l:List Int}{k:Nat}(h:k<l.length)(D:shF (l.getD k 0) ≠ []):evA l k=rdEs (shF (l.getD k 0)) (ev0 (l.getD k 0)) l (k+1):=by unfold evA;rw[if_neg (by omega),if_neg D]
theorem shF_evO (k:Int):∀o∈shF k,EvO o:=by
 intro o Q;unfold shF at Q
 repeat' split at Q
 all_goals
  simp only[List.mem_cons,List.not_mem_nil,or_false] at Q
  try (rcases Q with rfl|rfl|rfl|rfl|rfl|rfl|rfl|rfl|rfl)
  try (rcases Q with rfl|rfl|rfl|rfl|rfl|rfl|rfl)
  try (rcases Q with rfl|rfl|rfl|rfl)
  try (rcases Q with rfl|rfl)
  try subst Q
  all_goals first|exact .inl rfl|exact .inr (.inl rfl)|exact .inr (.inr rfl)|exact Q.elim
theorem set14 (W:World)(b:Nat)(v0 v1 v2 v3 v4 v5 v6 v7 v8 v9 v10 v11 v12 v13:Value):((((((((((((((W.setCell ⟨b,0,none⟩ v0).setCell ⟨b,1,none⟩ v1).setCell ⟨b,2,none⟩ v2).setCell ⟨b,3,none⟩ v3).setCell ⟨b,4,none⟩ v4).setCell ⟨b,5,none⟩ v5).setCell ⟨b,6,none⟩ v6).setCell ⟨b,7,none⟩ v7).setCell ⟨b,8,none⟩ v8).setCell ⟨b,9,none⟩ v9).setCell ⟨b,10,none⟩ v10).setCell ⟨b,11,none⟩ v11).setCell ⟨b,12,none⟩ v12).setCell ⟨b,13,none⟩ v13)=W.setCells b 0 [v0,v1,v2,v3,v4,v5,v6,v7,v8,v9,v10,v11,v12,v13]:=by
 simp only[World.setCells]
theorem rdr_setCells {xi b:Nat}{W:World}{v:Value}{n:Int}(us:List Value)(h:Rdr xi W v n)(E:xi≠b):Rdr xi (W.setCells b 0 us) v n:=by
 have hk:=et b xi E us 0 W;exact⟨(yR (a:=⟨xi,0,none⟩) hk).trans h.1,(yR (a:=⟨xi,1,none⟩) hk).trans h.2,(World.frozen?_of_block (a:=⟨xi,1,none⟩) hk).trans h.3⟩
theorem gr_setCells {xi b:Nat}{w W:World}(us:List Value)(h:w.grownBy W (some xi))(E:w.heap.size<=b):w.grownBy (W.setCells b 0 us) (some xi):=by
 have D:=zh b ya us 0 W (Below.refl b W);exact⟨D.os.trans h.os,D.tape.trans h.tape,D.output.trans h.output,yO h.size D.size,fun i hi L=>by rw[et b i (by omega) us 0 W];exact h.block i hi L⟩
def EvEnd (xi:Nat)(v:Value)(w:World)(r:Option (Ev × Nat))(e:Ending)(w':World):Prop:=
 w.grownBy w' (some xi)/\(∀x n,r=some (x,n)->e = .returned (evV x)/\Rdr xi w' v n)/\(r=none->∃p,e = .panicked (fo 3 p))
theorem evEnd_fail {xi:Nat}{v:Value}{w w':World}{r:Option (Ev × Nat)}(X:w.grownBy w' (some xi))(hr:r=none)(p:Int):EvEnd xi v w r (.panicked (fo 3 p)) w':=
 ⟨X,(fun _ _ h=>by rw[hr] at h;cases h),fun _=>⟨p,rfl⟩⟩
theorem evEnd_done {xi:Nat}{v:Value}{w w':World}{r:Option (Ev × Nat)}{x:Ev}{n:Nat}(X:w.grownBy w' (some xi))(hr:r=some (x,n))(h:Rdr xi w' v n):EvEnd xi v w r (.returned (evV x)) w':=
 ⟨X,(fun a b h'=>by rw[hr] at h';cases h';exact⟨rfl,h⟩),(fun h'=>by rw[hr] at h';cases h')⟩
theorem ffs_get {W:World}{B:Nat}:∀ {os:List Nat} {fs:List Fc},FFs W B os fs->os.length=fs.length/\∀(i:Nat) (c:Fc),fs[i]? = some c->∃o:Nat,os[i]? = some o/\FF W B o c
 | [],[],_=>⟨rfl,fun i c h=>by simp at h⟩
 | o::os,c::F,h=>by
  have ih:=ffs_get h.2;refine⟨by simp[ih.1],fun i d hd=>?_⟩;cases i with
  | zero=>simp at hd;subst hd;exact⟨o,rfl,h.1⟩
  | succ i=>simpa using ih.2 i d (by simpa using hd)
 | [],c::F,h=>h.elim
 | o::os,[],h=>h.elim
theorem isKind_any (c:Int)(a:Option Addr)(n cap:Nat)(w:World):Calls Tryz.prog 46 #[.agg #[H c,.slice a n cap]] w fun e w'=>e = .returned (.bool (decide (0<n)))/\yn w w':=by
 go_enter Tryz.func46,Tryz.ntmps46;go_wp2_with fail;go_ret;exact⟨rfl,by go_grown⟩
theorem bel_gr {w W:World}(h:yn w W)(xi:Nat):w.grownBy W (some xi):=⟨h.os,h.tape,h.output,h.size,fun i hi _=>h.block i hi⟩
theorem gr_bel {w W V:World}{xi:Nat}(h:w.grownBy W (some xi))(Y:yn W V):w.grownBy V (some xi):=zw h (bel_gr Y xi)
theorem ff_gr {cs o xi:Nat}{W W':World}{c:Fc}(h:FF W cs o c)(E:W.grownBy W' (some xi))(L:xi<cs):FF W' cs o c:=by
 unfold FF at h |-;split
 ·rwa[if_pos ‹_›] at h
 ·rw[if_neg ‹_›] at h;split
  ·rwa[if_pos ‹_›] at h
  ·rw[if_neg ‹_›] at h;obtain⟨b,D,Y,h3,h4⟩:=h;exact⟨b,D,Y,yK h3 E.size,E.cell h4 (by simp;omega)⟩
theorem event_any (wb:World)(xi:Nat)(v:Value)(l:List Int)(k:Nat)(w:World)(hs:RSr wb xi v l k w) :
  Calls Tryz.prog 92 #[.pointer (some ⟨xi,0,none⟩)] w fun e w'=>EvEnd xi v w (evA l k) e w':=by
 have hsf:=sfl;have hsfn:=sfn;have hRw:=hs.lt;have xC:(l.length:Int)<=65536:=by have:=hs.ll;omega
 have oE:=hs.kk;have uf:Hid (yn w (w.alloc (mq (yv 0 0 0 0 0 0 0 0 ⟨#[]⟩ 0 0 0 0 0).toArray 37))):=mn _ _;have uV:=Z (zn w (yv 0 0 0 0 0 0 0 0 ⟨#[]⟩ 0 0 0 0 0) 37);have oY:=Z (hs.below (U uf) hRw);have jk:Hid ((w.alloc (mq (yv 0 0 0 0 0 0 0 0 ⟨#[]⟩ 0 0 0 0 0).toArray 37)).heap.size=w.heap.size+1):=by show _ = _;simp
 have HS:=Z hs;clear hs;rw[show(yv 0 0 0 0 0 0 0 0 ⟨#[]⟩ 0 0 0 0 0).toArray=(yv 0 0 0 0 0 0 0 0 ⟨#[]⟩ 0 0 0 0 0).toArray from rfl] at uV;obtain⟨a,cap,hv⟩:=rd_len (U HS).rd;go_enter Tryz.func92,Tryz.ntmps92;go_wp2_with fail;generalize (w.alloc (mq (yv 0 0 0 0 0 0 0 0 ⟨#[]⟩ 0 0 0 0 0).toArray 37))=W1 at uf uV oY jk |-
 by_cases vB:l.length<=k
 ·have HE:=Z (evA_end vB);have HR:=Z (hv ▸ (U oY).r);refine(take_end xi 1 k a l.length cap _ (U HR) (by omega) (by omega) (by omega) (by omega) (by omega)).mono ?_;rintro e w1 ⟨rfl,q,rfl⟩;go_wp2_with fail;exact⟨rfl,evEnd_fail (zw (bel_gr (U uf) xi) (ft _ _ _)) (U HE) _⟩
 clear hv
 obtain⟨b,off,kG,rfl,pl,ur,xt⟩:∃b off kG,v = .slice (some ⟨b,off,none⟩) l.length kG/\b<wb.heap.size/\l.length<=kG/\W1.cell? ⟨b,off+k,none⟩=some (.int .u8 (l.getD k 0)):=by
  obtain⟨a',c',hv',_,hc⟩:=(U oY).rd;obtain⟨b,off,rfl,xt⟩:=hc (by intro h;rw[h] at vB;simp at vB);have uw:=yL wb _ (xt 0 (by omega));exact⟨b,off,c',hv',uw,(U oY).cap _ _ _ hv',((U oY).bel.cell (p:=⟨b,off+k,none⟩) uw).trans (xt k (by omega))⟩
 have HR:=Z (U oY).r;refine(take_ok xi 1 k b off l.length kG _ (U HR) (by omega) (by omega) ur (by omega)).mono ?_;rintro e w2 ⟨rfl,q,rfl⟩;have hgs:=zw (dX W1 ⟨xi,1,none⟩ (H ((k+1:Nat):Int))) (ft _ q _);have uj:=Z (zw (bel_gr (U uf) xi) hgs);have qf:=Z ((U oY).go hgs (((U oY).r.step ((k+1:Nat):Int)).drewN q) (by omega));have xG:=Z (dU (U uV) (hgs.block w.heap.size (by rw[U jk];omega) (by simp;omega)));have HZ2:Hid (w.heap.size<((W1.setCell ⟨xi,1,none⟩ (H ((k+1:Nat):Int))).drewN q).heap.size):=yK (by rw[U jk];omega) hgs.size;have pX:=hgs.cell xt (by have:=(U oY).le;simp;omega);have hbt:=bts_get (U HS).bb k;have HSh:=Z (fun(h:shF (l.getD k 0) = [])=>evA_no (by omega) h);have HYe:=Z (fun(h:shF (l.getD k 0) ≠ [])=>evA_yes (by omega) h);clear hgs oY uV uf HR xt jk HS;generalize (W1.setCell ⟨xi,1,none⟩ (H ((k+1:Nat):Int))).drewN q=W2 at uj qf xG HZ2 pX |-;generalize l.getD k 0=kd at *;obtain⟨oT,af⟩:=hbt;go_wp2_with fail;refine(shape_any kd W2).mono ?_;rintro e W3 ⟨fv,fs,rfl,hof,hff,xL⟩;have uZ:=U HZ2;have vV:=(ffs_get hff).1;have ka:=Z hof;have HF3:=Z hff;have pU:=(U qf).below xL (U qf).lt;have kh:=zg (U xG) xL uZ;have hG3:=gr_bel (U uj) xL;have hz3:=yK uZ xL.size;obtain⟨fa,pe,rfl,cO,uF⟩:=hof;obtain⟨xy,xH⟩:=mu W3 [H (shC kd),.slice fa fs.length pe] 95;have py:=Z (pU.below xy pU.lt);have HX4r:=Z (zg kh xy hz3);have xU:=Z (gr_bel hG3 xy);have kD:=Z (iX (U ka) xy ya);have HF4:=Z (fun(o:Nat) (c:Fc) (h:FF W3 W2.heap.size o c)=>iM h xy ya);have HZ4:Hid (W3.heap.size<(W3.alloc (mq #[H (shC kd),.slice fa fs.length pe] 95)).heap.size):=by show _ < _;simp
 rw[show[H (shC kd),.slice fa fs.length pe].toArray = #[H (shC kd),.slice fa fs.length pe] from rfl] at xH;clear hff xL pU kh hG3 uF xy qf xG uj ka;go_wp2_with fail;generalize (W3.alloc (mq #[H (shC kd),.slice fa fs.length pe] 95))=W4 at xH py HX4r xU kD HF4 HZ4 |-;refine(isKind_any (shC kd) fa fs.length pe W4).mono ?_;rintro e W5 ⟨rfl,uc⟩;have hz4:=U HZ4;have HS5:=Z ((U py).below uc (U py).lt);have HX5r:=Z (zg (U HX4r) uc (by omega));have vj:=Z (zg (U xH) uc hz4);have xT:=Z (gr_bel (U xU) uc);have pw:=Z (iX (U kD) uc ya);have HF5:=Z (fun(o:Nat) (c:Fc) (h:FF W3 W2.heap.size o c)=>iM (U HF4 o c h) uc ya);have HZ5:=Z (yK hz4 uc.size);clear uc py HX4r xH xU kD HF4 HZ4 hz4
 by_cases xr:fs.length=0
 ·have HE:=Z (U HSh (List.length_eq_zero_iff.1 (vV.trans xr)));have HR:=Z (U HS5).r;rw[xr];go_wp2_with fail;refine(gC xi 3 _ _ _ (U HR)).mono ?_;rintro e w6 ⟨rfl,rfl⟩;go_wp2_with fail;exact⟨rfl,evEnd_fail (U xT) (U HE) _⟩
 have jO:decide (0<fs.length)=true:=by simpa using Nat.pos_of_ne_zero xr
 have c50:=A (U vj) 0 rfl;rw[jO];have HYE:=Z (U HYe (by intro h;rw[h] at vV;exact xr vV.symm));have jm:=mn W5 (mq (yv kd (shC kd) 0 0 0 0 0 0 ⟨#[]⟩ 0 0 0 0 0).toArray 37);have vJ:Hid (Bx (W5.alloc (mq (yv kd (shC kd) 0 0 0 0 0 0 ⟨#[]⟩ 0 0 0 0 0).toArray 37)) W5.heap.size (ev0 kd).vs):=zn W5 (ev0 kd).vs 37;have HS6:=Z ((U HS5).below jm (U HS5).lt);have qL:=Z (bel_gr jm xi);have c51:=A (zg (U vj) jm (U HZ5)) 1 rfl;clear jm jO;go_wp2_with fail;generalize (W5.alloc (mq (yv kd (shC kd) 0 0 0 0 0 0 ⟨#[]⟩ 0 0 0 0 0).toArray 37))=W6 at vJ HS6 qL c51 |-;go_loopw [28] (fun iv wr=>∃(i n:Nat) (x:Ev),iv=H i/\i<=fs.length/\W5.grownBy wr (some xi)/\RSr wb xi (.slice (some ⟨b,off,none⟩) l.length kG) l n wr/\Bx wr W5.heap.size x.vs/\rdEs ((shF kd).drop i) x l n=evA l k) (fun iv _=>fs.length-(intOf iv).toNat)
 case atStart=>exact⟨0,k+1,ev0 kd,rfl,Nat.zero_le _,U qL,U HS6,U vJ,(U HYE).symm⟩
 case round =>
  obtain⟨i,n,x,rfl,hi,X,hs,hx,xS⟩:=hrel;have HG:=Z X;have HS:=Z hs;have HX:=Z hx;have vn:=Z xS;clear X hs hx xS
  by_cases xM:i<fs.length
  ·obtain⟨c,hic⟩:∃c,fs[i]? = some c:=⟨_,yI xM⟩;obtain⟨o,jx,pY⟩:=(ffs_get (U HF3)).2 i c hic;have hfo5:=U HF5 o c pY;obtain⟨a7,c7,e7,_,uF⟩:=U pw;simp only[Value.slice.injEq] at e7;obtain⟨rfl,_,rfl⟩:=e7;obtain⟨g,rfl,hg0,pZ,xW,_⟩:=uF (by intro h;rw[h] at xM;simp at xM);have hR5:=(U HS5).lt;have hRF:xi<W2.heap.size:=Nat.lt_trans hRw (U HZ2);have uR:g≠xi:=by omega
   have q0:=(U HG).cell (xW i c hic 0 _ rfl) (by simp;omega);have q1:=(U HG).cell (xW i c hic 1 _ rfl) (by simp;omega);simp only[Nat.zero_add,Nat.add_zero] at q0 q1;have hen:=fun args V=>(field_enter _ o c W5 hfo5 args V).1;have hEV:=shF_evO kd o (yP jx);have uL:(i:Int)<fs.length:=by omega
   have hd:=xd (show i<(shF kd).length by rw[vV];exact xM);rw[(yH.1 jx).2] at hd;obtain⟨n1,n2,O⟩:=c;have qR:=mn wr (mq #[.func (.func n1) #[] O,.func (.func n2) #[] O] 136)
   have hEw:W5.heap.size<wr.heap.size:=by
    obtain⟨y,hy⟩:=Option.isSome_iff_exists.1 ((U HX).t 0 (by rw[Ev.len];decide)).1;exact yL wr _ hy
   have HCT:=Z (readField_any wb w W2.heap.size xi W5.heap.size o ⟨n1,n2,O⟩ _ l n x.vs _ ((U HS).below qR (U HS).lt) (zg (U HX) qR hEw) hR5 (Ev.len x) hEV (iM (ff_gr hfo5 (U HG) hRF) qR ya) hRF);have HGA:=Z (gr_bel (U HG) qR);have HD:=Z hd;have jF:=Z hEV;clear xW hic jx pY hfo5 hd qR hEV;simp only at hen HCT;go_wp2_with fail;refine(U HCT).mono ?_;rintro e w7 hFd;cases X:rdF o l n with
   | none =>
    obtain⟨p,rfl⟩:=hFd.2.2 X;have HE:=Z (((U vn).symm.trans (by rw[U HD])).trans (rdEs_none (os:=(shF kd).drop (i+1)) (e:=x) X));have jt:=Z (zw (U xT) (gr2_on (U HGA) hFd.1 ya));clear hFd X;go_wp2_with fail;exact⟨rfl,evEnd_fail (U jt) (U HE) _⟩
   | some y =>
    obtain⟨y,m⟩:=y;obtain⟨rfl,hs7,hx7⟩:=hFd.2.1 y m X;have HE:=Z (((U vn).symm.trans (by rw[U HD])).trans (rdEs_some (os:=(shF kd).drop (i+1)) (e:=x) X));have jt:=Z (gr2_on (U HGA) hFd.1 ya);rw[evs_put x (U jF) (rdF_ty X)] at hx7;have HS7:=Z hs7;have HX7:=Z hx7;clear hFd X hs7 hx7;go_wp2_with fail;go_roundw
    case rel=>exact⟨i+1,m,x.put o y,by go_num,by omega,U jt,U HS7,U HX7,(U HE).symm⟩
    case measure=>simp[intOf];omega
  ·have qW:i=fs.length:=by omega
   have HE:Hid (evA l k=some (x,n)):=by
    show evA l k = _;rw[<- U vn,List.drop_eq_nil_of_le (by omega)];rfl
   have dd:=U HX;obtain⟨xm,⟨ck,F,ct,O,cq,ci,cp,cg⟩,id,xj,qty,xk,xh⟩:=x;obtain ⟨d0,d1,d2,d3,d4,d5,d6,d7,d8,d9,kH,oo,ot,ou⟩:=q0_14 dd rfl;have uO:=Z (dU (U HX5r) ((U HG).block w.heap.size (Nat.lt_trans hz3 (U HZ5)) (by simp;omega)));have HRN:=Z (U HS).r;have jR:=Z (zw (U xT) (U HG));clear dd vn;have z0:=A (U uO) 0 rfl;have f0:=zd (U uO) 0 (by decide);have z1:=A (U uO) 1 rfl;have f1:=zd (U uO) 1 (by decide);have z2:=A (U uO) 2 rfl;have f2:=zd (U uO) 2 (by decide);have z3:=A (U uO) 3 rfl;have f3:=zd (U uO) 3 (by decide);have z4:=A (U uO) 4 rfl;have f4:=zd (U uO) 4 (by decide);have z5:=A (U uO) 5 rfl;have f5:=zd (U uO) 5 (by decide);have z6:=A (U uO) 6 rfl;have f6:=zd (U uO) 6 (by decide);have z7:=A (U uO) 7 rfl;have f7:=zd (U uO) 7 (by decide);have z8:=A (U uO) 8 rfl;have f8:=zd (U uO) 8 (by decide);have z9:=A (U uO) 9 rfl;have f9:=zd (U uO) 9 (by decide);have jD:=A (U uO) 10 rfl;have f10:=zd (U uO) 10 (by decide);have ko:=A (U uO) 11 rfl;have f11:=zd (U uO) 11 (by decide);have kp:=A (U uO) 12 rfl;have f12:=zd (U uO) 12 (by decide);have kq:=A (U uO) 13 rfl;have f13:=zd (U uO) 13 (by decide);clear vj HX5r pw HF5 c50 c51 vJ HS6 qL pX HS5 HX;go_wp2_with fail;rw[set14];have xX:=Z (zq (us:=(yv xm ck F ct O cq ci cp cg id xj qty xk xh)) (U uO) rfl);have HQ:=Z (evEnd_done (gr_setCells (yv xm ck F ct O cq ci cp cg id xj qty xk xh) (U jR) (Nat.le_refl w.heap.size)) (U HE) (rdr_setCells (yv xm ck F ct O cq ci cp cg id xj qty xk xh) (U HRN) (by omega)));clear z0 f0 z1 f1 z2 f2 z3 f3 z4 f4 z5 f5 z6 f6 z7 f7 z8 f8 z9 f9 jD f10 ko f11 kp f12 kq f13 d0 d1 d2 d3 d4 d5 d6 d7 d8 d9 kH oo ot ou uO;generalize (wr.setCells w.heap.size 0 (yv xm ck F ct O cq ci cp cg id xj qty xk xh))=WF at xX HQ |-;obtain⟨d0,d1,d2,d3,d4,d5,d6,d7,d8,d9,kH,oo,ot,ou⟩:=yz (U xX);refine bodyPost_ret (v:=evV ⟨xm,⟨ck,F,ct,O,cq,ci,cp,cg⟩,id,xj,qty,xk,xh⟩) ?_ rfl (U HQ);simp[results,Tryz.f92,go_sem,d0,d1,d2,d3,d4,d5,d6,d7,d8,d9,kH,oo,ot,ou,evV]
def Ev.num (e:Ev):Nat->Int
 | 1=>e.cmd.k
 | 2=>e.cmd.s
 | 3=>e.cmd.t
 | 4=>e.cmd.l
 | 5=>e.cmd.q
 | 6=>e.cmd.i
 | 9=>e.id
 | 10=>e.other
 | 11=>e.qty
 | 12=>e.price
 | 13=>e.reason
 | _=>0
theorem ev_num (e:Ev){o:Nat}(h:plcO o=true):e.vs[o]? = some (H (e.num o)):=by
 rcases(show o=1\/o=2\/o=3\/o=4\/o=5\/o=6\/o=9\/o=10\/o=11\/o=12\/o=13 by simp[plcO] at h;omega) with rfl|rfl|rfl|rfl|rfl|rfl|rfl|rfl|rfl|rfl|rfl
 all_goals rfl
structure Ev.fit (e:Ev):Prop where
 n:∀o,-9223372036854775808<=e.num o/\e.num o<=9223372036854775807
 k:-9223372036854775808<=e.kind/\e.kind<=9223372036854775807
 p:e.cmd.p<18446744073709551616
 g:e.cmd.g.size<=maxLen
def wrF (e:Ev)(o:Nat):List Int:=if o=7 then fl8 (fbit e.cmd.p) else if o=8 then fd e.cmd.g else putU (zz (e.num o))
theorem ownT_base {B C:Nat}{w:World}{v:Value}{l:List Int}(h:OwnT C w v l)(hB:B<=C):OwnT B w v l:=by
 obtain⟨g,cap,xA,t,D,Y,h3⟩:=h;exact⟨g,cap,xA,t,D,yO hB Y,h3⟩
def WrEnd (w:World)(l:List Int)(r:Ending)(w':World):Prop:=∃v,r = .returned v/\OwnT w.heap.size w' v l/\yn w w'
theorem writeNum_any (e:Ev)(b o:Nat)(w:World)(he:e.fit)(Q:plcO o=true)(hc:w.cell? (J b 0)=some (.func (.func (plcV o)) #[] #[])) :
  Calls Tryz.prog 172 #[evV e,I b 0] w fun r w'=>WrEnd w (putU (zz (e.num o))) r w':=by
 have xD:=mn w (Obj.cells e.vs.toArray 37);have hx:=A (zn w e.vs 37) o (ev_num e Q);have HP:=Z (fun W=>plc_any o w.heap.size W Q);have hpe:=plc_enter o Q;have xM:=yL w _ hc;have hc':=(xD.cell (p:=(J b 0)) xM).trans hc;have HI:=Z (fun W=>implPut_any (e.num o) W (he.n o).1 (he.n o).2);have HB:=Z xD;have HZ:Hid ((w.alloc (Obj.cells e.vs.toArray 37)).heap.size=w.heap.size+1):=by show _ = _;simp
 clear xD hc he;generalize plcV o=f at *;generalize e.num o=z at *;unfold evV;unfold Ev.vs at hx hc' HB HZ;obtain⟨xm,⟨ck,F,ct,O,cq,ci,cp,cg⟩,id,xj,qty,xk,xh⟩:=e;simp only at hx hc' HB HZ |-;go_enter Tryz.func172,Tryz.ntmps172;go_wp2_with fail;refine(U HP _).mono ?_;rintro r w1 ⟨rfl,qF⟩;rw[qF];clear qF;go_wp2_with fail;refine(U HI _).mono ?_;rintro r w2 ⟨v,rfl,aE,xO⟩;have HE:Hid (WrEnd w (putU (zz z)) (.returned v) w2):=⟨v,rfl,ownT_base aE (by rw[U HZ];omega),(U HB).trans (xO.mono (U HB).size)⟩;clear aE xO;go_wp2_with fail;go_ret;exact U HE
theorem writePrice_any (e:Ev)(w:World)(he:e.fit):Calls Tryz.prog 131 #[evV e] w fun r w'=>WrEnd w (fl8 (fbit e.cmd.p)) r w':=by
 have hsf:=sfl;have xD:=mn w (Obj.cells e.vs.toArray 37);have hx:=A (zn w e.vs 37) 7 rfl;have HI:=Z (fun W=>implFloat_any e.cmd.p W);have HB:=Z xD;have HZ:Hid ((w.alloc (Obj.cells e.vs.toArray 37)).heap.size=w.heap.size+1):=by show _ = _;simp
 clear xD he;unfold evV;unfold Ev.vs at hx HB HZ;obtain⟨xm,⟨ck,F,ct,O,cq,ci,cp,cg⟩,id,xj,qty,xk,xh⟩:=e;simp only at hx HB HZ HI |-;go_enter Tryz.func131,Tryz.ntmps131;go_wp2_with fail;refine(U HI _).mono ?_;rintro r w2 ⟨v,rfl,aE,xO⟩;have HE:Hid (WrEnd w (fl8 (fbit cp)) (.returned v) w2):=⟨v,rfl,ownT_base aE (by rw[U HZ];omega),(U HB).trans (xO.mono (U HB).size)⟩;clear aE xO;go_wp2_with fail;go_ret;exact U HE
theorem writeTag_any (e:Ev)(w:World)(he:e.fit):Calls Tryz.prog 133 #[evV e] w fun r w'=>WrEnd w (fd e.cmd.g) r w':=by
 have hq:=he.g;have xD:=mn w (Obj.cells e.vs.toArray 37);have hx:=A (zn w e.vs 37) 8 rfl;have HI:=Z (fun W=>implText_any e.cmd.g W he.g);have HB:=Z xD;have HZ:Hid ((w.alloc (Obj.cells e.vs.toArray 37)).heap.size=w.heap.size+1):=by show _ = _;simp
 clear xD he;unfold evV;unfold Ev.vs at hx HB HZ;obtain⟨xm,⟨ck,F,ct,O,cq,ci,cp,cg⟩,id,xj,qty,xk,xh⟩:=e;simp only at hx HB HZ HI |-;go_enter Tryz.func133,Tryz.ntmps133;go_wp2_with fail;refine(U HI _).mono ?_;rintro r w2 ⟨v,rfl,aE,xO⟩;have HE:Hid (WrEnd w (fd cg) (.returned v) w2):=⟨v,rfl,ownT_base aE (by rw[U HZ];omega),(U HB).trans (xO.mono (U HB).size)⟩;clear aE xO;go_wp2_with fail;go_ret;exact U HE
theorem writeField_any (cs o:Nat)(c:Fc)(e:Ev)(W:World)(he:e.fit)(Q:EvO o)(hf:FF W cs o c):Calls Tryz.prog c.n1 (#[evV e]++c.l) W fun r w'=>WrEnd W (wrF e o) r w':=by
 unfold FF at hf;unfold wrF;unfold EvO at Q;rcases Q with rfl|rfl|Q
 ·rw[if_pos rfl] at hf;subst hf;exact writePrice_any e W he
 ·rw[if_neg (by decide),if_pos rfl] at hf;subst hf;exact writeTag_any e W he
 ·have h7:o≠7:=by intro e;subst e;simp[plcO] at Q
  have h8:o≠8:=by intro e;subst e;simp[plcO] at Q
  rw[if_neg h7,if_neg h8] at hf |-;obtain⟨b,rfl,D,Y,h3⟩:=hf;exact writeNum_any e b o W he Q h3
theorem fl8_bts (u:Nat):Bts (fl8 u):=by
 intro x hx;simp only[fl8,List.mem_cons,List.not_mem_nil,or_false] at hx;omega
theorem io (u m n:Nat)(yl:Int)(hM:yl=(m:Int))(hn:n=m*256):shl8 (u / n) ((u:Int) / yl % 256)=u / m:=by
 subst hM hn;unfold shl8;rw[<- Int.natCast_ediv,<- Nat.div_div_eq_div_mul];generalize u / m=q;omega
theorem fl8_back (u:Nat)(h:u<18446744073709551616):(fl8 u).foldl shl8 0=u:=by
 have s0:=io u 72057594037927936 18446744073709551616 72057594037927936 rfl rfl;rw[Nat.div_eq_of_lt h] at s0;have s1:=io u 281474976710656 72057594037927936 281474976710656 rfl rfl;have s2:=io u 1099511627776 281474976710656 1099511627776 rfl rfl;have s3:=io u 4294967296 1099511627776 4294967296 rfl rfl;have s4:=io u 16777216 4294967296 16777216 rfl rfl;have s5:=io u 65536 16777216 65536 rfl rfl;have s6:=io u 256 65536 256 rfl rfl;have s7:shl8 (u / 256) ((u:Int) % 256)=u:=by unfold shl8;omega
 simp only[fl8,List.foldl_cons,List.foldl_nil];rw[s0,s1,s2,s3,s4,s5,s6,s7]
theorem fbit_lt (x:Nat)(h:x<18446744073709551616):fbit x<18446744073709551616:=by
 unfold fbit;split <;> omega
theorem fbit_nan (x:Nat):¬ (nanB (fbit x)=true/\fbit x≠9221120237041090560):=by
 rintro⟨D,Y⟩
 by_cases h:nanB x=true
 ·exact Y (if_pos h)
 ·rw[show fbit x=x from if_neg h] at D;exact h D
end Go.Proofs.YthhkapcbocgcoaaGreatDoor
