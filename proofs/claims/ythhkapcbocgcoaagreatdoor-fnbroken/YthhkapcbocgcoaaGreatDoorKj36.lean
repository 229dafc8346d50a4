/-.-/
import Derived.Test.YthhkapcbocgcoaaGreatDoorKj20
import Derived.Test.YthhkapcbocgcoaaGreatDoorKj28
set_option linter.unusedVariables false
set_option maxHeartbeats 6400000
set_option maxRecDepth 100000
namespace Go.Proofs.YthhkapcbocgcoaaGreatDoor
open Go.RowKit
theorem specBookOK_any (next:Int)(v:Value)(l:List Od)(w:World)(hr:RdR Od.vs 6 w v l)(X:∀c∈l,c.tag.size<=maxLen) :
  Calls Tryz.prog 15 #[.agg #[H next,v]] w fun e w'=>e = .returned (.bool (okS next l))/\yn w w':=by
 have HR:=Z hr;have HGG:=Z X;obtain⟨a,cap,rfl,xC,hc⟩:=hr
 have xt:∀(k:Nat) (c:Od),l[k]? = some c->∃b off,a=some (J b off)/\b<w.heap.size/\w.rangeAt b (off+k*6) c.vs:=by
  intro k c hk;obtain⟨b,off,D,Y,h3⟩:=hc (by intro h;rw[h] at hk;simp at hk);exact⟨b,off,D,Y,h3 k c hk⟩
 have HC:=Z xt;clear xt hc X;have ud:Hid (yn w (w.alloc (mq #[H next,.slice a l.length cap] 27))):=mn _ _;have jM:=zm w [H next,.slice a l.length cap] 27;have HX:Hid (World.rangeAt (w.alloc (mq #[H next,.slice a l.length cap] 27)) w.heap.size 0 [H next,.slice a l.length cap]/\w.heap.size<(w.alloc (mq #[H next,.slice a l.length cap] 27)).heap.size):=⟨jM,by rw[zf];omega⟩;clear jM;cases D:betB next 1 1000000
 ·go_enter Tryz.func15,Tryz.ntmps15;go_wp2_with fail;refine(fq next 1 1000000 _).mono ?_;rintro e w1 ⟨rfl,rfl⟩;go_wp2_with fail;go_ret;exact⟨zp (by simp[okS,D]),U ud⟩
 by_cases Y:l.length<=20
 rotate_left
 ·have dD:(20:Int)<l.length:=by omega
  go_enter Tryz.func15,Tryz.ntmps15;go_wp2_with fail;refine(fq next 1 1000000 _).mono ?_;rintro e w1 ⟨rfl,rfl⟩;go_wp2_with fail;go_ret;exact⟨zp (by simp[okS,D,Y]),U ud⟩
 have dD:¬ ((20:Int)<l.length):=by omega
 go_enter Tryz.func15,Tryz.ntmps15;go_wp2_with fail;refine(fq next 1 1000000 _).mono ?_;rintro e w1 ⟨rfl,rfl⟩;go_wp2_with fail;generalize (w.alloc (mq #[H next,.slice a l.length cap] 27))=W1 at ud HX |-;have hsw:=(U HX).2;go_loopw [3] (fun iv wr=>∃(i:Nat) (last:Int),i<=l.length/\iv=H i/\Hid (allR next 0 l=allR next last (l.drop i))/\0<=last/\(i=0->last=0)/\(∀j,i=j+1->∃p,l[j]? = some p/\p.id=last)/\yn W1 wr) (fun iv _=>l.length-(intOf iv).toNat)
 case atStart=>exact⟨0,0,Nat.zero_le _,rfl,rfl,Int.le_refl _,fun _=>rfl,fun j hj=>by omega,Below.refl _ _⟩
 case round =>
  obtain⟨i,last,hi,rfl,R,jN,hz,hp,xo⟩:=hrel;have HB:=Z xo;have HP:=Z hp;have hbox:=zc (U HX).1 xo hsw;have x0:wr.cell? (J w.heap.size 0)=some (H next):=hbox 0 _ rfl;have x1:wr.cell? (J w.heap.size 1)=some (.slice a l.length cap):=hbox 1 _ rfl;have HBOX:=Z hbox;clear xo hp hbox
  by_cases xM:i<l.length
  ·obtain⟨c,vf⟩:∃c,l[i]? = some c:=⟨_,yI xM⟩
   have ji:l.drop i=c::l.drop (i+1):=by
    obtain⟨D,rfl⟩:=yH.1 vf;exact xd D
   have HI:Hid (allR next 0 l=(ordB c&&decide (last<c.id)&&decide (c.id<next)&&allR next c.id (l.drop (i+1)))):=by
    have:=U R;rw[ji] at this;exact this
   obtain⟨b,off,rfl,E,xn⟩:=U HC i c vf;have hb01:=(U ud).trans ((U HB).mono (U ud).size);obtain⟨g0,g1,g2,g3,g4,g5⟩:=zF (zc xn hb01 E);have HS:=Z (U HGG c (yP vf));have pv:=Z vf;have uL:(i:Int)<l.length:=by omega
   have bB:=(U HB).size;have pL:=Z hb01;clear vf xn ji R hb01;go_wp2_with fail;generalize hW4:(wr.alloc (mq (yw c.id c.side c.ticks c.left c.life c.tag).toArray 65))=W4
   have oP:Hid (W4.rangeAt wr.heap.size 0 c.vs/\W4.rangeAt w.heap.size 0 [H next,.slice (some (J b off)) l.length cap]/\yn W1 W4/\W4.heap.size=wr.heap.size+1/\yn wr W4):=by
    subst hW4;have hbb:=mn wr (mq (yw c.id c.side c.ticks c.left c.life c.tag).toArray 65);exact⟨zm wr c.vs _,zc (U HBOX) hbb (by omega),(U HB).alloc bB _,zf _ _,hbb⟩
   have js:Hid (∀w',W4.grownBy w' none->w'.rangeAt wr.heap.size 0 c.vs/\w'.rangeAt w.heap.size 0 [H next,.slice (some (J b off)) l.length cap]):=fun w' h' =>
    ⟨zr (U oP).1 h' (by rw[(U oP).2.2.2.1];omega) (by simp),zr (U oP).2.1 h' (by rw[(U oP).2.2.2.1];omega) (by simp)⟩
   have HPREV:Hid (∀j p,i=j+1->l[j]? = some p->∀w',W4.grownBy w' none->w'.rangeAt b (off+j*6) p.vs):=fun j p hj hpj w' h'=>by
    obtain⟨b',off',kK,hb',kL⟩:=U HC j p hpj;simp only[Option.some.injEq,Addr.mk.injEq,and_true] at kK;obtain⟨rfl,rfl⟩:=kK;exact zr (zc (zc kL (U pL) E) (U oP).2.2.2.2 (yK E (U pL).size)) h' (by rw[(U oP).2.2.2.1];have:=(U pL).size;omega) (by simp)
   have HORD:Hid (∀W,Calls Tryz.prog 32 #[.agg (yw c.id c.side c.ticks c.left c.life c.tag).toArray] W fun e w'=>e = .returned (.bool (ordB c))/\W.grownBy w' none):=fun W=>(l03Order_any c W (U HS)).mono fun e w' h=>⟨h.1,eF h.2 ya⟩;clear hW4 g0 g1 g2 g3 g4 g5 x0 x1
   haveI:=gw_ne W4
   have k0:∀u:GW W4,u.val.cell? (J wr.heap.size 0)=some (H c.id):=fun u=>(U js u.val u.property).1 0 _ rfl;have k1:∀u:GW W4,u.val.cell? (J wr.heap.size 1)=some (H c.side):=fun u=>(U js u.val u.property).1 1 _ rfl;have k2:∀u:GW W4,u.val.cell? (J wr.heap.size 2)=some (H c.ticks):=fun u=>(U js u.val u.property).1 2 _ rfl;have k3:∀u:GW W4,u.val.cell? (J wr.heap.size 3)=some (H c.left):=fun u=>(U js u.val u.property).1 3 _ rfl;have k4:∀u:GW W4,u.val.cell? (J wr.heap.size 4)=some (H c.life):=fun u=>(U js u.val u.property).1 4 _ rfl;have k5:∀u:GW W4,u.val.cell? (J wr.heap.size 5)=some (yk c.tag):=fun u=>(U js u.val u.property).1 5 _ rfl;have m0:∀u:GW W4,u.val.cell? (J w.heap.size 0)=some (H next):=fun u=>(U js u.val u.property).2 0 _ rfl;have m1:∀u:GW W4,u.val.cell? (J w.heap.size 1)=some (.slice (some (J b off)) l.length cap):=fun u=>(U js u.val u.property).2 1 _ rfl;cases Q:ordB c
   ·have HN:Hid (allR next 0 l=false):=by
     show _ = _;rw[U HI,Q];simp
    refine iB (W:=W4) (by kernel_rfl) (by kernel_rfl) (yS _ _) ?_
    repeat (go_big_quiet_step ((rename_i u;refine(U HORD u.val).mono ?_;rintro e w3 ⟨rfl,uM⟩;exact⟨rfl,⟨w3,u.property.trans uM⟩,rfl⟩)))
    refine wpQuiet_nil ?_;rintro _ ⟨⟨w5,vI⟩,rfl⟩;have ui:=Z ((U oP).2.2.1.grown vI (by rw[(U oP).2.2.2.1];omega) (fun g X=>by cases X));clear vI;go_wp2_with fail;go_ret;exact⟨zp (by rw[okS,U HN];simp),(U ud).trans ((U ui).mono (U ud).size)⟩
   by_cases qU:c.id<1
   ·have qw:¬ last<c.id:=by omega
    have hd1:decide (c.id<1)=true:=by simpa using qU
    have HN:Hid (allR next 0 l=false):=by
     show _ = _;rw[U HI,decide_eq_false qw];simp
    refine iB (W:=W4) (by kernel_rfl) (by kernel_rfl) (yS _ _) ?_
    repeat (go_big_quiet_step ((rename_i u;refine(U HORD u.val).mono ?_;rintro e w3 ⟨rfl,uM⟩;exact⟨rfl,⟨w3,u.property.trans uM⟩,rfl⟩)))
    refine wpQuiet_nil ?_;rintro _ ⟨⟨w5,vI⟩,rfl⟩;have ui:=Z ((U oP).2.2.1.grown vI (by rw[(U oP).2.2.2.1];omega) (fun g X=>by cases X));clear vI;go_wp2_with fail;go_ret;exact⟨zp (by rw[okS,U HN];simp),(U ud).trans ((U ui).mono (U ud).size)⟩
   have hd1:decide (c.id<1)=false:=by simpa using qU
   by_cases hcn:c.id<next
   rotate_left
   ·have hd2:decide (next<=c.id)=true:=by simp;omega
    have HN:Hid (allR next 0 l=false):=by
     show _ = _;rw[U HI,decide_eq_false hcn];simp
    refine iB (W:=W4) (by kernel_rfl) (by kernel_rfl) (yS _ _) ?_
    repeat (go_big_quiet_step ((rename_i u;refine(U HORD u.val).mono ?_;rintro e w3 ⟨rfl,uM⟩;exact⟨rfl,⟨w3,u.property.trans uM⟩,rfl⟩)))
    refine wpQuiet_nil ?_;rintro _ ⟨⟨w5,vI⟩,rfl⟩;have ui:=Z ((U oP).2.2.1.grown vI (by rw[(U oP).2.2.2.1];omega) (fun g X=>by cases X));clear vI;go_wp2_with fail;go_ret;exact⟨zp (by rw[okS,U HN];simp),(U ud).trans ((U ui).mono (U ud).size)⟩
   have hd2:decide (next<=c.id)=false:=by simpa using hcn
   cases i with
   | zero =>
    have qw:last<c.id:=by have:=hz rfl;omega
    have HN:Hid (allR next 0 l=allR next c.id (l.drop (0+1))):=by
     show _ = _;rw[U HI,Q,decide_eq_true qw,decide_eq_true hcn];rfl
    refine iB (W:=W4) (by kernel_rfl) (by kernel_rfl) (yS _ _) ?_
    repeat (go_big_quiet_step ((rename_i u;refine(U HORD u.val).mono ?_;rintro e w3 ⟨rfl,uM⟩;exact⟨rfl,⟨w3,u.property.trans uM⟩,rfl⟩)))
    refine wpQuiet_nil ?_;rintro _ ⟨⟨w5,vI⟩,rfl⟩;have ui:=Z ((U oP).2.2.1.grown vI (by rw[(U oP).2.2.2.1];omega) (fun g X=>by cases X));clear vI;go_wp2_with fail;go_roundw
    case rel=>exact⟨0+1,c.id,by omega,by go_num,U HN,by omega,fun h=>by omega,fun j' hj'=>⟨c,by rw[show j'=0 by omega];exact U pv,rfl⟩,U ui⟩
    case measure=>simp[intOf];omega
   | succ j =>
    obtain⟨p,hpj,uA⟩:=U HP j rfl;have q0:∀u:GW W4,u.val.cell? (J b (off+j*6))=some (H p.id):=fun u=>(zF (U HPREV j p rfl hpj u.val u.property)).1;have aB:((j+1:Nat):Int)=(j:Int)+1:=by omega
    have hjl:(j:Int)<l.length:=by omega
    have hwj:IntKind.i64.wrap ((j:Int)+1-1)=(j:Int):=by rw[IntKind.wrap_i64];omega
    have jO:decide ((0:Int)<(j:Int)+1)=true:=by rw[xg];omega
    clear hpj
    by_cases qw:last<c.id
    ·have cN:decide (c.id<=p.id)=false:=by rw[uA];simpa using qw
     have HN:Hid (allR next 0 l=allR next c.id (l.drop ((j+1)+1))):=by
      show _ = _;rw[U HI,Q,decide_eq_true qw,decide_eq_true hcn];rfl
     refine iB (W:=W4) (by kernel_rfl) (by kernel_rfl) (yS _ _) ?_
     repeat (go_big_quiet_step ((rename_i u;refine(U HORD u.val).mono ?_;rintro e w3 ⟨rfl,uM⟩;exact⟨rfl,⟨w3,u.property.trans uM⟩,rfl⟩)))
     refine wpQuiet_nil ?_;rintro _ ⟨⟨w5,vI⟩,rfl⟩;have ui:=Z ((U oP).2.2.1.grown vI (by rw[(U oP).2.2.2.1];omega) (fun g X=>by cases X));clear vI;go_wp2_with fail;go_roundw
     case rel=>exact⟨(j+1)+1,c.id,by omega,by go_num,U HN,by omega,fun h=>by omega,fun j' hj'=>⟨c,by rw[show j'=(j+1) by omega];exact U pv,rfl⟩,U ui⟩
     case measure=>simp[intOf];omega
    ·have cN:decide (c.id<=p.id)=true:=by rw[uA];simpa using qw
     have HN:Hid (allR next 0 l=false):=by
      show _ = _;rw[U HI,decide_eq_false qw];simp
     refine iB (W:=W4) (by kernel_rfl) (by kernel_rfl) (yS _ _) ?_
     repeat (go_big_quiet_step ((rename_i u;refine(U HORD u.val).mono ?_;rintro e w3 ⟨rfl,uM⟩;exact⟨rfl,⟨w3,u.property.trans uM⟩,rfl⟩)))
     refine wpQuiet_nil ?_;rintro _ ⟨⟨w5,vI⟩,rfl⟩;have ui:=Z ((U oP).2.2.1.grown vI (by rw[(U oP).2.2.2.1];omega) (fun g X=>by cases X));clear vI;go_wp2_with fail;go_ret;exact⟨zp (by rw[okS,U HN];simp),(U ud).trans ((U ui).mono (U ud).size)⟩
  ·have hallT:allR next 0 l=true:=by
    have h:=U R;rw[xb (by omega)] at h;rw[h];rfl
   have HALL:=Z hallT;have HRI:=Z (iC hallT).1;have pL:=Z ((U ud).trans ((U HB).mono (U ud).size));have HRr:=Z (zi (U HR) (U pL) ya);have bB:w.heap.size<wr.heap.size:=yK hsw (U HB).size;clear R hallT;go_wp2_with fail;refine(l03Levels_any _ l wr (U HRr) (by omega)).mono ?_;rintro e w3 ⟨rfl,uM⟩;have vw:=Z uM;have z1:w3.cell? (J w.heap.size 1)=some (.slice a l.length cap):=uM.cell x1 (by simp);have aS:=Z (rdR_grown (U HRr) uM (fun g X=>by cases X));clear uM x0 x1
   by_cases h8:nlev l<=8
   rotate_left
   ·have h8':(8:Int)<(nlev l:Nat):=by omega
    go_wp2_with fail;go_ret;refine⟨zp (by simp[okS,h8]),?_⟩;exact(U pL).trans ((lk (U vw) (fun g X=>by cases X) ya).mono (U pL).size)
   have h8':¬ ((8:Int)<(nlev l:Nat)):=by omega
   have kt:Hid (okS next l=noX l):=by
    show _ = _;rw[okS,D,decide_eq_true Y,U HALL,decide_eq_true h8];rfl
   go_wp2_with fail;refine(lw _ l 1 w3 (U aS) (U HRI) (by omega)).mono ?_;rintro e w4 ⟨kb,rfl,pA,jv⟩;have xU:=Z ((U vw).trans jv);have y1:w4.cell? (J w.heap.size 1)=some (.slice a l.length cap):=jv.cell z1 (by simp);have cw:=Z (rdR_grown (U aS) jv (fun g X=>by cases X));have bZ:=Z pA;clear jv pA z1;go_wp2_with fail;refine(lw _ l 2 w4 (U cw) (U HRI) (by omega)).mono ?_;rintro e w5 ⟨ks,rfl,hf2,vI⟩;have xT:=Z ((U xU).trans vI);have v1:w5.cell? (J w.heap.size 1)=some (.slice a l.length cap):=vI.cell y1 (by simp);have ql:=Z hf2;have vv:=Z ((U pL).trans ((lk (U xT) (fun g X=>by cases X) ya).mono (U pL).size));clear vI hf2 y1;rcases frPre_end (U bZ) with⟨rfl,hno1⟩|⟨ib,ob,rfl,hib,pB⟩
   ·have HN:=Z (noX_none1 hno1);clear hno1;go_wp2_with fail;go_quiet (fail);go_wp2_with fail;go_ret;exact⟨zp (by rw[U kt,U HN]),⟨(U vv).os,(U vv).tape,(U vv).output,(U vv).size,(U vv).block⟩⟩
   have hib0:decide ((ib:Int)<0)=false:=by simp
   rcases frPre_end (U ql) with⟨rfl,hno2⟩|⟨is,os,rfl,his,hfs⟩
   ·have HN:=Z (noX_none2 hno2);clear hno2;go_wp2_with fail;go_quiet (fail);go_wp2_with fail;go_ret;exact⟨zp (by rw[U kt,U HN]),⟨(U vv).os,(U vv).tape,(U vv).output,(U vv).size,(U vv).block⟩⟩
   have his0:decide ((is:Int)<0)=false:=by simp
   have HN:=Z (noX_fronts pB hfs);obtain⟨b,off,rfl,E,hcb⟩:=U HC ib ob pB.1;obtain⟨b',off',kK,hb',hcs⟩:=U HC is os hfs.1;simp only[Option.some.injEq,Addr.mk.injEq,and_true] at kK;obtain⟨rfl,rfl⟩:=kK;obtain⟨-,-,t1,-⟩:=zF (zc hcb (U vv) E);obtain⟨-,-,t2,-⟩:=zF (zc hcs (U vv) E);have hib':(ib:Int)<l.length:=by omega
   have his':(is:Int)<l.length:=by omega
   clear pB hfs hcb hcs;go_wp2_with fail;go_quiet (fail);go_wp2_with fail;go_ret;exact⟨zp (by rw[U kt,U HN]),⟨(U vv).os,(U vv).tape,(U vv).output,(U vv).size,(U vv).block⟩⟩
theorem plain0 (ck F ct O cq ci:Int)(cp:Nat)(cg:ByteArray)(w:World)(h0:(ck==0)=false):Calls Tryz.prog 112 #[.agg (yx ck F ct O cq ci cp cg).toArray] w fun e w'=>e = .returned (.bool false)/\yn w w':=by
 go_enter Tryz.func112,Tryz.ntmps112;go_wp2_with fail;go_ret;exact⟨rfl,by go_grown⟩
theorem plain1 (ck F ct O cq ci:Int)(cp:Nat)(cg:ByteArray)(w:World)(h0:(ck==0)=true)(D:(F==0)=false):Calls Tryz.prog 112 #[.agg (yx ck F ct O cq ci cp cg).toArray] w fun e w'=>e = .returned (.bool false)/\yn w w':=by
 go_enter Tryz.func112,Tryz.ntmps112;go_wp2_with fail;go_ret;exact⟨rfl,by go_grown⟩
theorem plain2 (ck F ct O cq ci:Int)(cp:Nat)(cg:ByteArray)(w:World)(h0:(ck==0)=true)(D:(F==0)=true)(Y:(ct==0)=false):Calls Tryz.prog 112 #[.agg (yx ck F ct O cq ci cp cg).toArray] w fun e w'=>e = .returned (.bool false)/\yn w w':=by
 go_enter Tryz.func112,Tryz.ntmps112;go_wp2_with fail;go_ret;exact⟨rfl,by go_grown⟩
theorem plain3 (ck F ct O cq ci:Int)(cp:Nat)(cg:ByteArray)(w:World)(h0:(ck==0)=true)(D:(F==0)=true)(Y:(ct==0)=true)(h3:(O==0)=false):Calls Tryz.prog 112 #[.agg (yx ck F ct O cq ci cp cg).toArray] w fun e w'=>e = .returned (.bool false)/\yn w w':=by
 go_enter Tryz.func112,Tryz.ntmps112;go_wp2_with fail;go_ret;exact⟨rfl,by go_grown⟩
theorem plain4 (ck F ct O cq ci:Int)(cp:Nat)(cg:ByteArray)(w:World)(h0:(ck==0)=true)(D:(F==0)=true)(Y:(ct==0)=true)(h3:(O==0)=true)(h4:(cq==0)=false):Calls Tryz.prog 112 #[.agg (yx ck F ct O cq ci cp cg).toArray] w fun e w'=>e = .returned (.bool false)/\yn w w':=by
 go_enter Tryz.func112,Tryz.ntmps112;go_wp2_with fail;go_ret;exact⟨rfl,by go_grown⟩
theorem plain5 (ck F ct O cq ci:Int)(cp:Nat)(cg:ByteArray)(w:World)(h0:(ck==0)=true)(D:(F==0)=true)(Y:(ct==0)=true)(h3:(O==0)=true)(h4:(cq==0)=true)(h5:(ci==0)=false):Calls Tryz.prog 112 #[.agg (yx ck F ct O cq ci cp cg).toArray] w fun e w'=>e = .returned (.bool false)/\yn w w':=by
 go_enter Tryz.func112,Tryz.ntmps112;go_wp2_with fail;go_ret;exact⟨rfl,by go_grown⟩
theorem plain6 (ck F ct O cq ci:Int)(cp:Nat)(cg:ByteArray)(w:World)(h0:(ck==0)=true)(D:(F==0)=true)(Y:(ct==0)=true)(h3:(O==0)=true)(h4:(cq==0)=true)(h5:(ci==0)=true)(h6:(((fbit cp:Nat):Int)==0)=false):Calls Tryz.prog 112 #[.agg (yx ck F ct O cq ci cp cg).toArray] w fun e w'=>e = .returned (.bool false)/\yn w w':=by
 go_enter Tryz.func112,Tryz.ntmps112;go_wp2_with (go_at_call 159;refine(bitsS_any cp _).mono ?_;rintro e w' ⟨rfl,rfl⟩);go_ret;exact⟨rfl,by go_grown⟩
theorem plain7 (ck F ct O cq ci:Int)(cp:Nat)(cg:ByteArray)(w:World)(h0:(ck==0)=true)(D:(F==0)=true)(Y:(ct==0)=true)(h3:(O==0)=true)(h4:(cq==0)=true)(h5:(ci==0)=true)(h6:(((fbit cp:Nat):Int)==0)=true)(h7:(cg.toList == [])=false):Calls Tryz.prog 112 #[.agg (yx ck F ct O cq ci cp cg).toArray] w fun e w'=>e = .returned (.bool false)/\yn w w':=by
 go_enter Tryz.func112,Tryz.ntmps112;go_wp2_with (go_at_call 159;refine(bitsS_any cp _).mono ?_;rintro e w' ⟨rfl,rfl⟩);go_ret;exact⟨rfl,by go_grown⟩
theorem plain8 (ck F ct O cq ci:Int)(cp:Nat)(cg:ByteArray)(w:World)(h0:(ck==0)=true)(D:(F==0)=true)(Y:(ct==0)=true)(h3:(O==0)=true)(h4:(cq==0)=true)(h5:(ci==0)=true)(h6:(((fbit cp:Nat):Int)==0)=true)(h7:(cg.toList == [])=true):Calls Tryz.prog 112 #[.agg (yx ck F ct O cq ci cp cg).toArray] w fun e w'=>e = .returned (.bool true)/\yn w w':=by
 go_enter Tryz.func112,Tryz.ntmps112;go_wp2_with (go_at_call 159;refine(bitsS_any cp _).mono ?_;rintro e w' ⟨rfl,rfl⟩);go_ret;exact⟨rfl,by go_grown⟩
theorem plain_any (c:Cm)(w:World):Calls Tryz.prog 112 #[cmV c] w fun e w'=>e = .returned (.bool (plainC c))/\yn w w':=by
 obtain⟨ck,F,ct,O,cq,ci,cp,cg⟩:=c;unfold cmV plainC;simp only;cases h0:(ck==0) with
 | false=>exact plain0 ck F ct O cq ci cp cg w h0
 | true =>
  cases D:(F==0) with
  | false=>exact plain1 ck F ct O cq ci cp cg w h0 D
  | true =>
   cases Y:(ct==0) with
   | false=>exact plain2 ck F ct O cq ci cp cg w h0 D Y
   | true =>
    cases h3:(O==0) with
    | false=>exact plain3 ck F ct O cq ci cp cg w h0 D Y h3
    | true =>
     cases h4:(cq==0) with
     | false=>exact plain4 ck F ct O cq ci cp cg w h0 D Y h3 h4
     | true =>
      cases h5:(ci==0) with
      | false=>exact plain5 ck F ct O cq ci cp cg w h0 D Y h3 h4 h5
      | true =>
       have efb:(fbit cp==0)=(((fbit cp:Nat):Int)==0):=by rw[Bool.eq_iff_iff];simp
       rw[efb];cases h6:(((fbit cp:Nat):Int)==0) with
       | false=>exact plain6 ck F ct O cq ci cp cg w h0 D Y h3 h4 h5 h6
       | true =>
        have eg:decide (cg.toList = [])=(cg.toList == []):=by rw[Bool.eq_iff_iff];simp
        rw[eg];cases h7:(cg.toList == []) with
        | false=>exact plain7 ck F ct O cq ci cp cg w h0 D Y h3 h4 h5 h6 h7
        | true =>
         exact plain8 ck F ct O cq ci cp cg w h0 D Y h3 h4 h5 h6 h7
def FlEnd (k:Int)(w:World)(e:Ending)(w':World):Prop:=∃g,e = .returned (.slice (some (J g 0)) (fldK k).length (fldK k).length)/\w.heap.size<=g/\Bx w' g ((fldK k).map Value.bool)/\yn w w'
theorem gm (k:Int)(l:List Bool)(w:World)(t:TypeId)(h:fldK k=l):FlEnd k w (.returned (.slice (some (J w.heap.size 0)) l.length l.length)) (w.alloc (mq (l.map Value.bool).toArray t)):=by
 subst h;exact⟨w.heap.size,rfl,Nat.le_refl _,zn w _ t,mn _ _⟩
theorem fields1 (w:World):Calls Tryz.prog 109 #[H 1] w fun e w'=>FlEnd 1 w e w':=by
 have HE:=Z (gm 1 (fldK 1) w 4 rfl);go_enter Tryz.func109,Tryz.ntmps109;go_wp2_with fail;go_ret;exact U HE
theorem fields2 (w:World):Calls Tryz.prog 109 #[H 2] w fun e w'=>FlEnd 2 w e w':=by
 have HE:=Z (gm 2 (fldK 2) w 4 rfl);go_enter Tryz.func109,Tryz.ntmps109;go_wp2_with fail;go_ret;exact U HE
theorem fields3 (w:World):Calls Tryz.prog 109 #[H 3] w fun e w'=>FlEnd 3 w e w':=by
 have HE:=Z (gm 3 (fldK 3) w 4 rfl);go_enter Tryz.func109,Tryz.ntmps109;go_wp2_with fail;go_ret;exact U HE
theorem fields4 (w:World):Calls Tryz.prog 109 #[H 4] w fun e w'=>FlEnd 4 w e w':=by
 have HE:=Z (gm 4 (fldK 4) w 4 rfl);go_enter Tryz.func109,Tryz.ntmps109;go_wp2_with fail;go_ret;exact U HE
theorem fields5 (w:World):Calls Tryz.prog 109 #[H 5] w fun e w'=>FlEnd 5 w e w':=by
 have HE:=Z (gm 5 (fldK 5) w 4 rfl);go_enter Tryz.func109,Tryz.ntmps109;go_wp2_with fail;go_ret;exact U HE
theorem fields6 (w:World):Calls Tryz.prog 109 #[H 6] w fun e w'=>FlEnd 6 w e w':=by
 have HE:=Z (gm 6 (fldK 6) w 4 rfl);go_enter Tryz.func109,Tryz.ntmps109;go_wp2_with fail;go_ret;exact U HE
theorem fields7 (w:World):Calls Tryz.prog 109 #[H 7] w fun e w'=>FlEnd 7 w e w':=by
 have HE:=Z (gm 7 (fldK 7) w 4 rfl);go_enter Tryz.func109,Tryz.ntmps109;go_wp2_with fail;go_ret;exact U HE
theorem fields8 (w:World):Calls Tryz.prog 109 #[H 8] w fun e w'=>FlEnd 8 w e w':=by
 have HE:=Z (gm 8 (fldK 8) w 4 rfl);go_enter Tryz.func109,Tryz.ntmps109;go_wp2_with fail;go_ret;exact U HE
theorem fields9 (w:World):Calls Tryz.prog 109 #[H 9] w fun e w'=>FlEnd 9 w e w':=by
 have HE:=Z (gm 9 (fldK 9) w 4 rfl);go_enter Tryz.func109,Tryz.ntmps109;go_wp2_with fail;go_ret;exact U HE
theorem fieldsN (k:Int)(w:World)(h:¬ (1<=k/\k<=9)):Calls Tryz.prog 109 #[H k] w fun e w'=>FlEnd k w e w':=by
 have HE:=Z (gm k [] w 4 (by unfold fldK;rw[if_neg (by omega),if_neg (by omega),if_neg (by omega),if_neg (by omega),if_neg (by omega)]));have e1:(k==1)=false:=xe.2 (by omega);have e2:(k==2)=false:=xe.2 (by omega);have e3:(k==3)=false:=xe.2 (by omega);have e4:(k==4)=false:=xe.2 (by omega);have e5:(k==5)=false:=xe.2 (by omega);have e6:(k==6)=false:=xe.2 (by omega);have e7:(k==7)=false:=xe.2 (by omega);have e8:(k==8)=false:=xe.2 (by omega);have e9:(k==9)=false:=xe.2 (by omega);clear h;go_enter Tryz.func109,Tryz.ntmps109;go_wp2_with fail;go_ret;exact U HE
theorem fields_any (k:Int)(w:World):Calls Tryz.prog 109 #[H k] w fun e w'=>FlEnd k w e w':=by
 by_cases h:1<=k/\k<=9
 ·rcases(show k=1\/k=2\/k=3\/k=4\/k=5\/k=6\/k=7\/k=8\/k=9 by omega) with rfl|rfl|rfl|rfl|rfl|rfl|rfl|rfl|rfl
  ·exact fields1 w
  ·exact fields2 w
  ·exact fields3 w
  ·exact fields4 w
  ·exact fields5 w
  ·exact fields6 w
  ·exact fields7 w
  ·exact fields8 w
  ·exact fields9 w
 ·exact fieldsN k w h
theorem size_mk (w:World)(o:Obj):(w.alloc o).heap.size=w.heap.size+1:=by simp
theorem numbers_any (e:Ev)(w:World):Calls Tryz.prog 111 #[evV e] w fun r w'=>∃g,r = .returned (.slice (some (J g 0)) 5 5)/\w.heap.size<=g/\Bx w' g ((numsE e).map (H))/\yn w w':=by
 have HE:Hid (∀w':World,yn w w'->∃g,Ending.returned (.slice (some (J w'.heap.size 0)) 5 5) = .returned (.slice (some (J g 0)) 5 5)/\w.heap.size<=g/\Bx (w'.alloc (mq ((numsE e).map (H)).toArray 3)) g ((numsE e).map (H))/\yn w (w'.alloc (mq ((numsE e).map (H)).toArray 3))):=fun w' E =>
  ⟨w'.heap.size,rfl,E.size,zn w' _ _,E.alloc E.size _⟩
 have E:=mn w (Obj.cells e.vs.toArray 37);have HB:=Z E;obtain⟨xm,⟨ck,F,ct,O,cq,ci,cp,cg⟩,id,xj,qty,xk,xh⟩:=e;unfold evV;unfold numsE at HE |-;unfold Ev.vs at HB;simp only[List.map_cons,List.map_nil] at HE HB |-;clear E;go_enter Tryz.func111,Tryz.ntmps111;go_wp2_with fail;go_ret;have hf:=U HE _ (U HB);rw[size_mk] at hf;exact hf
end Go.Proofs.YthhkapcbocgcoaaGreatDoor
