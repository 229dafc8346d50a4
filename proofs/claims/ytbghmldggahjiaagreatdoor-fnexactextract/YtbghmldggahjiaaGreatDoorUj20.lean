/-.-/
import Derived.Test.YtbghmldggahjiaaGreatDoorUj19
import Derived.WalkMore
set_option linter.unusedVariables false
set_option maxHeartbeats 6400000
set_option maxRecDepth 100000
namespace Go.Proofs.YtbghmldggahjiaaGreatDoor
open Go.RowKit
theorem match_any (next:Int)(vb:Value)(l:List Od)(c:Cm)(w:World)(hr:RdR Od.vs 6 w vb l)(hs:SlOk vb)(M:GoodL l)(h0:0<=next)(D:next<=1000000)(cG:0<=c.q)(aS:c.q<=1000000) :
  Calls Tryz.prog 207 #[.agg #[H next,vb],noV c] w fun e w'=>∃vq vt,e=ym (.agg #[H (next+1),vq,H next,H c.s,H (tk c.p),H (matL c next 21 l c.q []).2.1,H c.l,yk c.g,vt])/\ORow w' w.heap.size vq (matL c next 21 l c.q []).1/\ERow w' w.heap.size vt (matL c next 21 l c.q []).2.2/\yn w w':=by
 have HR:=Q hr;have HG:=Q M;have hsl:=hs;have HMI:=Q (mi_start (c:=c) (id:=next) M cG aS);have hn:=M.len;obtain⟨a,cap,rfl,xD,hc⟩:=hr;generalize hF:matL c next 21 l c.q []=yl at HMI |-;clear hF hc M hs;obtain⟨kk,s,ty,li,qt,ii,pr,tg⟩:=c;unfold noV;simp only at *;have xI:=zh w (J #[H next,.slice a l.length cap] 41);have uc:((w.alloc (J #[H next,.slice a l.length cap] 41)).alloc (J #[H s,H ty,H li,H qt,yj pr,yk tg] 96)).heap.size=w.heap.size+1+1:=by rw[zh,xI]
 have ja:(((w.alloc (J #[H next,.slice a l.length cap] 41)).alloc (J #[H s,H ty,H li,H qt,yj pr,yk tg] 96)).alloc (J #[H 0,.slice none 0 0,H 0,H 0,H 0,H 0,H 0,yk ⟨#[]⟩,.slice none 0 0] 276)).heap.size=w.heap.size+1+1+1:=by rw[zh,uc]
 have r1:=zo w [H next,.slice a l.length cap] 41;have r2:=zo (w.alloc (J #[H next,.slice a l.length cap] 41)) [H s,H ty,H li,H qt,yj pr,yk tg] 96;rw[xI] at r2;have t3:=zT ((w.alloc (J #[H next,.slice a l.length cap] 41)).alloc (J #[H s,H ty,H li,H qt,yj pr,yk tg] 96)) [H 0,.slice none 0 0,H 0,H 0,H 0,H 0,H 0,yk ⟨#[]⟩,.slice none 0 0] 276;rw[uc] at t3;have xZ:Hid (yn w (((w.alloc (J #[H next,.slice a l.length cap] 41)).alloc (J #[H s,H ty,H li,H qt,yj pr,yk tg] 96)).alloc (J #[H 0,.slice none 0 0,H 0,H 0,H 0,H 0,H 0,yk ⟨#[]⟩,.slice none 0 0] 276))):=((lT _ _).alloc (by rw[xI];omega) _).alloc (by rw[uc];omega) _;have b23:Below (w.heap.size+1+1) ((w.alloc (J #[H next,.slice a l.length cap] 41)).alloc (J #[H s,H ty,H li,H qt,yj pr,yk tg] 96)) (((w.alloc (J #[H next,.slice a l.length cap] 41)).alloc (J #[H s,H ty,H li,H qt,yj pr,yk tg] 96)).alloc (J #[H 0,.slice none 0 0,H 0,H 0,H 0,H 0,H 0,yk ⟨#[]⟩,.slice none 0 0] 276)):=(Below.refl _ _).alloc (by rw[uc];omega) _;have jp:Below (w.heap.size+1) (w.alloc (J #[H next,.slice a l.length cap] 41)) ((w.alloc (J #[H next,.slice a l.length cap] 41)).alloc (J #[H s,H ty,H li,H qt,yj pr,yk tg] 96)):=(Below.refl _ _).alloc (by rw[xI];omega) _;have HX:Hid (_/\_/\_):=⟨zd (zd r1 jp (by omega)) b23 (by omega),zd r2 b23 (by omega),t3⟩;have kc:=Q ja;clear xI uc ja r1 r2 t3 b23 jp;go_enter Tryz.func207,Tryz.ntmps207
 go_wp2_with fail
 go_step3
 go_wp2_with fail;generalize (((w.alloc (J #[H next,.slice a l.length cap] 41)).alloc (J #[H s,H ty,H li,H qt,yj pr,yk tg] 96)).alloc (J #[H 0,.slice none 0 0,H 0,H 0,H 0,H 0,H 0,yk ⟨#[]⟩,.slice none 0 0] 276))=W3 at xZ HX kc |-;have HX:Hid (W3.rangeAt w.heap.size 0 [H next,.slice a l.length cap]/\W3.rangeAt (w.heap.size+1) 0 [H s,H ty,H li,H qt,yj pr,yk tg]/\W3.there (w.heap.size+1+1) 0 9):=Z HX;have hw3:W3.heap.size=w.heap.size+1+1+1:=Z kc;have bQ:=Q (zq (Z HR) (Z xZ) ya);refine zL (RG W3 (fun f=>{ tmps:=#[.agg #[H next,.slice a l.length cap],.agg #[H s,H ty,H li,H qt,yj pr,yk tg],yp w 0,xj (w.heap.size+1) 0,xj (w.heap.size+1+1) 0,f 7,F,F,f 0,f 1,f 2,f 3,f 4,f 5,f 6,F,F,F,F,F,F,F,F,F,F,F,F,F,F,F,F,F,F,F,F,F,F,F,F,F,F,F,F,F,F,F],defers:=[] }) 8 (DM w.heap.size W3.heap.size W3 next a cap l ⟨kk,s,ty,li,qt,ii,pr,tg⟩)) (by kernel_rfl) ?_ ?_ ?_
 ·exact⟨fun _=>F,rfl,⟨rfl,rfl,rfl,Nat.le_refl _,fun _ _=>rfl⟩,fun j hj=>by rw[yI] at hj;split at hj <;> simp at hj⟩
 ·rintro x hb V ⟨f,rfl,xk,hD⟩ hx xU;have xv:=eJ xU hx (acyc _ (by kernel_rfl));have k8:x[8]? = some true:=xv 8 (by simp);obtain⟨mb,g7,hmb,-,qi⟩:=hD 7 (xv 7 (by simp));obtain⟨a4,c4,hM⟩:=qi k8;have HM:=Q hM;have xM:=Q xk;have y0:V.cell? (U mb 0)=some (H next):=hM.cells 0 _ rfl;have f0:V.frozen? (U mb 0)=false:=by have:=(hM.there 0 (by omega)).2;rwa[Nat.zero_add] at this
  have hwr:IntKind.i64.wrap (next+1)=next+1:=by rw[IntKind.wrap_i64];omega
  dsimp only;simp only[g7];generalize f 0=e0,f 1=e1,f 2=e2,f 3=e3,f 4=e4,f 5=e5,f 6=e6;clear hD xv xU hx k8 qi hM xk g7 x f;go_wp2_with fail
  go_step3
  go_wp2_with fail;have kE:=Q hmb;clear hw3 hmb y0 f0;go_loopw [] (fun wr=>∃vq ll lf vt ts,Hid (MatS mb W3.heap.size wr (next+1) vq ll ⟨next,s,tk pr,lf,li,tg⟩ vt ts)/\Hid (MI ⟨kk,s,ty,li,qt,ii,pr,tg⟩ next yl ll lf ts)/\Hid (KeptBut mb W3.heap.size W3 wr)) (fun wr=>meas mb wr)
  case atStart=>exact⟨_,l,qt,_,[],matS_next (Z HM) (next+1),Z HMI,gV (lu (Z xM) ya) (kept_set V 0 _)⟩
  case round =>
   obtain⟨vq,ll,lf,vt,ts,hM,hI,hK⟩:=hrel;have y5:wr.cell? (U mb 5)=some (H lf):=(Z hM).cells 5 _ rfl
   obtain⟨av,cv,rfl⟩:∃a c,vt = .slice a ts.length c:=by
    rcases(Z hM).erow.2 with⟨e,e2⟩|⟨g,cap,xr,e,_⟩
    ·exact⟨none,0,by rw[e,e2]⟩
    ·exact⟨_,_,e⟩
   obtain⟨aq,cq,rfl⟩:∃a c,vq = .slice a ll.length c:=by
    rcases(Z hM).orow.2 with⟨e,e2⟩|⟨g,cap,xr,e,_⟩
    ·exact⟨none,0,by rw[e,e2]⟩
    ·exact⟨_,_,e⟩
   by_cases bC:0<lf
   ·have jM:=Q (Z hI).good;have HLB:Hid (∀o'∈ll,0<=o'.left/\o'.left<=1000000):=fun o' qF=>by have:=(Z jM).left o' qF;omega
    have qy:=Q (zP (Z hM).orow (by have:=(Z jM).len;omega));generalize vh:othS s=sd;have bT:=Q vh;generalize hq:quOf (decide (sd=1)) (zB ll sd)=q;have qz:=frOf_eq q;generalize hx:hdO q=x at qz;generalize cy:hdF q=fb at qz;have aj:Hid (frOf (quOf (decide (sd=1)) (zB ll sd)) = .tuple #[.agg (yw x.id x.side x.ticks x.left x.life x.tag).toArray,.bool fb]):=by show _ = _;rw[hq];exact qz
    have HFO:Hid (dN ll (othS s)=if fb=true then some x else none):=by
     show _ = _;rw[dN,vh,hq,<- hx,<- cy,hdO,hdF];cases q.head? <;> rfl
    clear vh hq qz hx cy q;have ja:=Z kc;have hc3:∀j,wr.cell? (U (w.heap.size+1) j)=W3.cell? (U (w.heap.size+1) j):=fun j=>yQ (a:=(U (w.heap.size+1) j)) ((Z hK).block (w.heap.size+1) (by omega) (by have:=Z kE;omega));have bO:Hid (wr.rangeAt (w.heap.size+1) 0 [H s,H ty,H li,H qt,yj pr,yk tg]):=fun j u hj=>(hc3 _).trans ((Z HX).2.1 j u hj);have hl3:w.heap.size+1<wr.heap.size:=by have:=(Z hK).size;omega
    clear hc3 ja;go_wp2_with fail;refine zL (RG wr (fun f=>{ tmps:=#[.agg #[H next,.slice a l.length cap],.agg #[H s,H ty,H li,H qt,yj pr,yk tg],yp w 0,xj (w.heap.size+1) 0,xj (w.heap.size+1+1) 0,xj mb 0,f 11,f 13,e0,e1,e2,e3,e4,e5,e6,xj mb 0,xj mb 0,H next,H (next+1),xj mb 0,xj mb 0,xj mb 2,xj mb 5,H lf,.bool true,f 8,f 0,f 1,f 2,f 3,f 4,f 5,f 6,f 7,f 9,f 10,u36,u37,u38,u39,u40,u41,u42,u43,u44,F],defers:=[] }) 12 (DQ mb (w.heap.size+1) wr (.agg #[H (next+1),.slice aq ll.length cq]) s sd ll x fb)) (by kernel_rfl) ?_ ?_ ?_
    ·exact⟨fun j=>if j=0 then u26 else if j=1 then u27 else if j=2 then u28 else if j=3 then u29 else if j=4 then u30 else if j=5 then u31 else if j=6 then u32 else if j=7 then u33 else if j=8 then u25 else if j=9 then u34 else if j=10 then u35 else if j=11 then u6 else if j=13 then u7 else F,rfl,⟨rfl,rfl,rfl,Nat.le_refl _,fun _ _=>rfl⟩,fun j hj=>by rw[yI] at hj;split at hj <;> simp at hj⟩
    ·rintro xx hb hk ⟨f,rfl,xk,hD⟩ hx xU;have xv:=iw xU hx (by kernel_rfl);have k12:xx[12]? = some true:=xv 12 (by simp);have oZ:f 13 = .bool fb:=hD 13 (xv 13 (by simp));obtain⟨pb,jU,hpb,-,qi⟩:=hD 11 (xv 11 (by simp));obtain⟨hrg,cF⟩:=qi k12;have xT:=Q (iU (Z hM) xk);have aA:=Q (gV (Z hK) (lu xk (Z hM).le));have o0:=zd (Z bO) xk hl3 0 _ rfl;have o1:=zd (Z bO) xk hl3 1 _ rfl;have o2:=zd (Z bO) xk hl3 2 _ rfl;have o3:=zd (Z bO) xk hl3 3 _ rfl;have o4:=zd (Z bO) xk hl3 4 _ rfl;have o5:=zd (Z bO) xk hl3 5 _ rfl;have HRG:=Q hrg;obtain⟨p0,p1,p2,p3,p4,p5⟩:=zM hrg;simp only[Nat.zero_add] at o0 o1 o2 o3 o4 o5 p0 p1 p2 p3 p4 p5;dsimp only;simp only[oZ,jU];generalize f 0=b0,f 1=b1,f 2=b2,f 3=b3,f 4=b4,f 5=b5,f 6=b6,f 7=b7,f 8=b8,f 9=b9,f 10=b10;clear hD xv xU hx k12 qi xk jU oZ hrg hpb f xx y5;cases fb
     ·have pD:Hid (yl=(ll,lf,ts)):=mi_none (Z hI) (by have:=Z HFO;simpa using this);clear o0 o1 o2 o3 o4 o5 p0 p1 p2 p3 p4 p5
      have ub:hk.there (w.heap.size+1+1) 0 9:=fun j hj=>by
       have A:=(Z aA).block (w.heap.size+1+1) (by have:=Z kc;omega) (by have:=Z kc;have:=Z kE;omega);have:=(Z HX).2.2 j hj;rw[yQ (a:=(U (w.heap.size+1+1) (0+j))) A,World.frozen?_of_block (a:=(U (w.heap.size+1+1) (0+j))) A];exact this
      have xo:=Q (match_end (Z xT) (Z aA) (Z xZ) (Z kc) (Z kE) [H (next+1),.slice aq ll.length cq,H next,H s,H (tk pr),H lf,H li,yk tg,.slice av ts.length cv] rfl ub);have c0:=(Z xT).cells 0 _ rfl;have c1:=(Z xT).cells 1 _ rfl;have c2:=(Z xT).cells 2 _ rfl;have c3:=(Z xT).cells 3 _ rfl;have c4:=(Z xT).cells 4 _ rfl;have c5:=(Z xT).cells 5 _ rfl;have c6:=(Z xT).cells 6 _ rfl;have c7:=(Z xT).cells 7 _ rfl;have c8:=(Z xT).cells 8 _ rfl;simp only[Nat.zero_add] at c0 c1 c2 c3 c4 c5 c6 c7 c8;obtain⟨v0,z0,q0⟩:=zI ub 0 (by omega);obtain⟨v1,z1,q1⟩:=zI ub 1 (by omega);obtain⟨v2,z2,q2⟩:=zI ub 2 (by omega);obtain⟨v3,z3,q3⟩:=zI ub 3 (by omega);obtain⟨v4,z4,q4⟩:=zI ub 4 (by omega);obtain⟨v5,z5,q5⟩:=zI ub 5 (by omega);obtain⟨v6,z6,q6⟩:=zI ub 6 (by omega);obtain⟨v7,z7,q7⟩:=zI ub 7 (by omega);obtain⟨v8,z8,q8⟩:=zI ub 8 (by omega);simp only[Nat.zero_add] at z0 q0 z1 q1 z2 q2 z3 q3 z4 q4 z5 q5 z6 q6 z7 q7 z8 q8;clear ub;go_wp2_with fail
      try simp +zetaDelta only[Exit.noGoto_ret]
      change bodyPost _ _ _ _ _ (hk.setCells (w.heap.size+1+1) 0 [H (next+1),.slice aq ll.length cq,H next,H s,H (tk pr),H lf,H li,yk tg,.slice av ts.length cv]);generalize hk.setCells (w.heap.size+1+1) 0 [H (next+1),.slice aq ll.length cq,H next,H s,H (tk pr),H lf,H li,yk tg,.slice av ts.length cv]=WE at xo |-;obtain⟨d0,d1,d2,d3,d4,d5,d6,d7,d8⟩:=yE (Z xo).1
      try simp only[Exit.inBlock,Exit.then]
      refine bodyPost_ret (by simp[results,Tryz.results207,go_sem,d0,d1,d2,d3,d4,d5,d6,d7,d8];try rfl) rfl ?_
      rw[Z pD];exact⟨_,_,rfl,(Z xo).2.1,(Z xo).2.2.1,(Z xo).2.2.2⟩
     ·have HFO:Hid (dN ll (othS s)=some x):=by show _ = _;have:=Z HFO;simpa using this
      go_wp2_with fail;refine(meets_any ⟨kk,s,ty,li,qt,ii,pr,tg⟩ x hk).mono ?_;rintro e w5 ⟨rfl,xX⟩;have un:=Q (iU (Z xT) xX);have HK5:=Q (gV (Z aA) (lu xX (Z xT).le));obtain⟨s0,s1,s2,s3,s4,s5⟩:=zM (zd (Z HRG) xX cF);simp only[Nat.zero_add] at s0 s1 s2 s3 s4 s5;clear o0 o1 o2 o3 o4 o5 p0 p1 p2 p3 p4 p5 xX;cases hme:dY ⟨kk,s,ty,li,qt,ii,pr,tg⟩ x
      ·have pD:Hid (yl=(ll,lf,ts)):=mi_stop (Z hI) (Z HFO) hme;clear s0 s1 s2 s3 s4 s5 hme
       have ub:w5.there (w.heap.size+1+1) 0 9:=fun j hj=>by
        have A:=(Z HK5).block (w.heap.size+1+1) (by have:=Z kc;omega) (by have:=Z kc;have:=Z kE;omega);have:=(Z HX).2.2 j hj;rw[yQ (a:=(U (w.heap.size+1+1) (0+j))) A,World.frozen?_of_block (a:=(U (w.heap.size+1+1) (0+j))) A];exact this
       have xo:=Q (match_end (Z un) (Z HK5) (Z xZ) (Z kc) (Z kE) [H (next+1),.slice aq ll.length cq,H next,H s,H (tk pr),H lf,H li,yk tg,.slice av ts.length cv] rfl ub);have c0:=(Z un).cells 0 _ rfl;have c1:=(Z un).cells 1 _ rfl;have c2:=(Z un).cells 2 _ rfl;have c3:=(Z un).cells 3 _ rfl;have c4:=(Z un).cells 4 _ rfl;have c5:=(Z un).cells 5 _ rfl;have c6:=(Z un).cells 6 _ rfl;have c7:=(Z un).cells 7 _ rfl;have c8:=(Z un).cells 8 _ rfl;simp only[Nat.zero_add] at c0 c1 c2 c3 c4 c5 c6 c7 c8;obtain⟨v0,z0,q0⟩:=zI ub 0 (by omega);obtain⟨v1,z1,q1⟩:=zI ub 1 (by omega);obtain⟨v2,z2,q2⟩:=zI ub 2 (by omega);obtain⟨v3,z3,q3⟩:=zI ub 3 (by omega);obtain⟨v4,z4,q4⟩:=zI ub 4 (by omega);obtain⟨v5,z5,q5⟩:=zI ub 5 (by omega);obtain⟨v6,z6,q6⟩:=zI ub 6 (by omega);obtain⟨v7,z7,q7⟩:=zI ub 7 (by omega);obtain⟨v8,z8,q8⟩:=zI ub 8 (by omega);simp only[Nat.zero_add] at z0 q0 z1 q1 z2 q2 z3 q3 z4 q4 z5 q5 z6 q6 z7 q7 z8 q8;clear ub;go_wp2_with fail
       try simp +zetaDelta only[Exit.noGoto_ret]
       change bodyPost _ _ _ _ _ (w5.setCells (w.heap.size+1+1) 0 [H (next+1),.slice aq ll.length cq,H next,H s,H (tk pr),H lf,H li,yk tg,.slice av ts.length cv]);generalize w5.setCells (w.heap.size+1+1) 0 [H (next+1),.slice aq ll.length cq,H next,H s,H (tk pr),H lf,H li,yk tg,.slice av ts.length cv]=WE at xo |-;obtain⟨d0,d1,d2,d3,d4,d5,d6,d7,d8⟩:=yE (Z xo).1
       try simp only[Exit.inBlock,Exit.then]
       refine bodyPost_ret (by simp[results,Tryz.results207,go_sem,d0,d1,d2,d3,d4,d5,d6,d7,d8];try rfl) rfl ?_
       rw[Z pD];exact⟨_,_,rfl,(Z xo).2.1,(Z xo).2.2.1,(Z xo).2.2.2⟩
      ·obtain⟨k,uJ,ar,hI6,hms⟩:=mi_step (Z hI) bC (Z HFO) hme;have hxm:=(Z jM).left x (yO ar);have qO:Hid (_/\_/\_/\_):=⟨uJ,ar,hI6,hms⟩;have hl1:=(Z hI).l1;have hl20:=(Z jM).len;have hfew:=(Z hI).few;have qu:Hid (0<=lf/\lf<=1000000/\0<=x.left/\x.left<=1000000/\ll.length<=1000/\ts.length<=1000):=⟨by omega,by omega,by omega,by omega,by omega,by omega⟩;clear uJ ar hI6 hms hme hxm hl1 hl20 hfew;go_wp2_with fail;refine(trade_any mb W3.heap.size (next+1) _ ll ⟨next,s,tk pr,lf,li,tg⟩ _ ts x k w5 (Z un) (Z qO).1 (Z qO).2.1 (Z qu).2.2.2.2.1 (Z qu).2.2.2.2.2 (Z qu).1 (Z qu).2.1 (Z qu).2.2.1 (Z qu).2.2.2.1 _ rfl).mono ?_;rintro e w6 ⟨ux,vU,rfl,hM6,hK6⟩;have HM6:=Q hM6;have HK6:=Q hK6;clear hM6 hK6 s0 s1 s2 s3 s4 s5;go_wp2_with fail;dsimp only[H,xj,U];go_roundw
       case rel=>exact⟨ux,_,_,vU,_,Z HM6,(Z qO).2.2.1,gV (Z HK5) (Z HK6)⟩
       case measure =>
        rw[meas_eq (Z HM6),meas_eq (Z hM)];have:=(Z qO).2.2.2;simp only[if_pos bC];exact this
    ·rintro xx hb hk i op ⟨f,rfl,xk,hD⟩ xm hx K xJ I
     have n12':i≠10->i<12->¬ xx[12]? = some true:=fun xy xH qv=>by
      have jz:=yf xm 12 rfl qv 11 rfl;have h9:=yf xm 12 rfl qv 9 rfl;have h8:=yf xm 9 rfl h9 8 rfl;have h7:=yf xm 8 rfl h8 7 rfl;have h6:=yf xm 7 rfl h7 6 rfl;have h5:=yf xm 6 rfl h6 5 rfl;have D:=yf xm 5 rfl h5 1 rfl;have h4:=yf xm 5 rfl h5 4 rfl;have h0:=yf xm 1 rfl D 0 rfl;have h3:=yf xm 4 rfl h4 3 rfl;have E:=yf xm 3 rfl h3 2 rfl
      have jr:∀j,j≠10->j<12->xx[j]? = some true:=fun j hj0 hj=>by
       rcases(by omega:j=0\/j=1\/j=2\/j=3\/j=4\/j=5\/j=6\/j=7\/j=8\/j=9\/j=11) with rfl|rfl|rfl|rfl|rfl|rfl|rfl|rfl|rfl|rfl|rfl <;> assumption
      rw[jr i xy xH] at xJ;cases xJ
     clear xm y5;have vV:=Q xk;have HD:=Q hD;have oy:=Q (zq (Z qy) xk ya);have z0:=zd (Z hM).cells xk (Z hM).lt 0 _ rfl;have z1:=zd (Z hM).cells xk (Z hM).lt 1 _ rfl;have o0:=zd (Z bO) xk hl3 0 _ rfl;rw[Nat.zero_add] at z0 z1 o0
     match i,K with
    | 0,K =>
     obtain rfl:=yb K;clear I hD xk;rw[if_pos (by rfl)];unfold Oper.wp;go_simp;exact⟨upd f 0 (xj mb 0),by simp[upd],zF (Z vV) (Z HD) (by decide) rfl⟩
    | 1,K =>
     obtain rfl:=yb K;have g:f 0=xj mb 0:=hD 0 (ye I 0 rfl);clear I hD xk;rw[if_pos (by rfl)];unfold Oper.wp;go_simp;exact⟨upd f 1 (.agg #[H (next+1),.slice aq ll.length cq]),by simp[upd,g],zF (Z vV) (Z HD) (by decide) rfl⟩
    | 2,K =>
     obtain rfl:=yb K;clear I hD xk;rw[if_pos (by rfl)];unfold Oper.wp;go_simp;exact⟨upd f 2 (xj (w.heap.size+1) 0),by simp[upd],zF (Z vV) (Z HD) (by decide) rfl⟩
    | 3,K =>
     obtain rfl:=yb K;have g:f 2=xj (w.heap.size+1) 0:=hD 2 (ye I 2 rfl);clear I hD xk;rw[if_pos (by rfl)];unfold Oper.wp;go_simp;exact⟨upd f 3 (H s),by simp[upd,g],zF (Z vV) (Z HD) (by decide) rfl⟩
    | 4,K =>
     obtain rfl:=yb K;have g:f 3=H s:=hD 3 (ye I 3 rfl);clear I hD xk;rw[if_pos (by rfl)];unfold Oper.wp;go_simp;refine(otherSide_any s hk).mono ?_;rw[Z bT];rintro e w4 ⟨rfl,rfl⟩;exact⟨upd f 4 (H sd),by simp[upd,g],zF (Z vV) (Z HD) (by decide) rfl⟩
    | 5,K =>
     obtain rfl:=yb K;have g1:f 1 = .agg #[H (next+1),.slice aq ll.length cq]:=hD 1 (ye I 1 rfl);have g4:f 4=H sd:=hD 4 (ye I 4 rfl);have cK:=n12' (by omega) (by omega);clear I hD xk;rw[if_pos (by rfl)];unfold Oper.wp;go_simp
     by_cases vh:sd=1
     ·subst vh;refine(lz (next+1) _ ll hk (Z oy) (Z jM).len (Z HLB)).mono ?_;rintro e w4 ⟨b,rfl,ht,uB,xz⟩;exact⟨upd f 5 (fo b),by simp[upd,g1,g4],ff (Z vV) (Z HD) xz (by decide) (dq_grow cK xz) (fun _=>.inl ⟨rfl,b,rfl,ht⟩)⟩
     ·refine(ln (next+1) sd vh _ ll hk (Z oy) (Z jM).len (Z HLB)).mono ?_;rintro e w4 ⟨b,rfl,ht,uB,xz⟩;exact⟨upd f 5 (fq b),by simp[upd,g1,g4],ff (Z vV) (Z HD) xz (by decide) (dq_grow cK xz) (fun _=>.inr ⟨vh,b,rfl,ht⟩)⟩
    | 6,K =>
     obtain rfl:=yb K;have cK:=n12' (by omega) (by omega);rcases hD 5 (ye I 5 rfl) cK with⟨vh,b,g5,ht⟩|⟨vh,b,g5,ht⟩
     ·subst vh;have HT:=Q ht;have hfl:=field0_bm b hk;clear I hD xk ht;rw[if_pos (by rfl)];unfold Oper.wp;go_simp;exact⟨upd f 6 (.func (.func 156) #[xj b 0] #[]),by simp[upd,g5],zF (Z vV) (Z HD) (by decide) (fun _=>.inl ⟨rfl,b,rfl,Z HT⟩)⟩
     ·have HT:=Q ht;have hfl:=field0_sm b hk;clear I hD xk ht;rw[if_pos (by rfl)];unfold Oper.wp;go_simp;exact⟨upd f 6 (.func (.func 160) #[xj b 0] #[]),by simp[upd,g5],zF (Z vV) (Z HD) (by decide) (fun _=>.inr ⟨vh,b,rfl,Z HT⟩)⟩
    | 7,K =>
     obtain rfl:=yb K;have cK:=n12' (by omega) (by omega);rcases hD 6 (ye I 6 rfl) cK with⟨vh,b,g6,ht⟩|⟨vh,b,g6,ht⟩
     ·subst vh;have HT:=Q ht
      have HE:Hid (frOf (quOf true (zB ll 1)) = .tuple #[.agg (yw x.id x.side x.ticks x.left x.life x.tag).toArray,.bool fb]):=by
       show _ = _;have:=Z aj;simpa using this
      clear I hD xk ht;rw[if_pos (by rfl)];unfold Oper.wp;go_simp;refine(front_b b 1 (zB ll 1) hk (Z HT) (yN (List.length_filter_le _ _) (Z jM).len)).mono ?_;rw[Z HE];rintro e w4 ⟨rfl,xz⟩;exact⟨upd f 7 (.tuple #[.agg (yw x.id x.side x.ticks x.left x.life x.tag).toArray,.bool fb]),by simp[upd,g6],ff (Z vV) (Z HD) xz (by decide) (dq_grow cK xz) rfl⟩
     ·have HT:=Q ht
      have HE:Hid (frOf (quOf false (zB ll sd)) = .tuple #[.agg (yw x.id x.side x.ticks x.left x.life x.tag).toArray,.bool fb]):=by
       have:=Z aj;rw[decide_eq_false vh] at this;exact this
      clear I hD xk ht;rw[if_pos (by rfl)];unfold Oper.wp;go_simp;refine(front_s b sd (zB ll sd) hk (Z HT) (yN (List.length_filter_le _ _) (Z jM).len)).mono ?_;rw[Z HE];rintro e w4 ⟨rfl,xz⟩;exact⟨upd f 7 (.tuple #[.agg (yw x.id x.side x.ticks x.left x.life x.tag).toArray,.bool fb]),by simp[upd,g6],ff (Z vV) (Z HD) xz (by decide) (dq_grow cK xz) rfl⟩
    | 8,K =>
     obtain rfl:=yb K;have g:f 7 = .tuple #[.agg (yw x.id x.side x.ticks x.left x.life x.tag).toArray,.bool fb]:=hD 7 (ye I 7 rfl);clear I hD xk;rw[if_pos (by rfl)];unfold Oper.wp;go_simp;exact⟨upd f 8 (.tuple #[.agg (yw x.id x.side x.ticks x.left x.life x.tag).toArray,.bool fb]),by simp[upd,g],zF (Z vV) (Z HD) (by decide) rfl⟩
    | 9,K =>
     obtain rfl:=yb K;have g:f 8 = .tuple #[.agg (yw x.id x.side x.ticks x.left x.life x.tag).toArray,.bool fb]:=hD 8 (ye I 8 rfl);clear I hD xk;rw[if_pos (by rfl)];unfold Oper.wp;go_simp;exact⟨upd f 9 (.agg (yw x.id x.side x.ticks x.left x.life x.tag).toArray),by simp[upd,g],zF (Z vV) (Z HD) (by decide) rfl⟩
    | 10,K =>
     obtain rfl:=yb K;have g:f 8 = .tuple #[.agg (yw x.id x.side x.ticks x.left x.life x.tag).toArray,.bool fb]:=hD 8 (ye I 8 rfl);clear I hD xk;rw[if_pos (by rfl)];unfold Oper.wp;go_simp;exact⟨upd f 10 (.bool fb),by simp[upd,g],zF (Z vV) (Z HD) (by decide) rfl⟩
    | 11,K =>
     obtain rfl:=yb K;have cK:=n12' (by omega) (by omega);clear I hD xk;rw[if_pos (by rfl)];unfold Oper.wp;go_simp;have xz:=lT hk (J (yw 0 0 0 0 0 ⟨#[]⟩).toArray 98);exact⟨upd f 11 (yp hk 0),by simp[upd],ff (Z vV) (Z HD) xz (by decide) (dq_grow cK xz) ⟨hk.heap.size,rfl,(Z vV).size,fun _=>⟨zT hk (yw 0 0 0 0 0 ⟨#[]⟩) _,by rw[zh];omega⟩,fun h=>absurd h cK⟩⟩
    | 12,K =>
     obtain rfl:=yb K;have cK:¬ xx[12]? = some true:=by rw[xJ];simp
     have g9:f 9 = .agg (yw x.id x.side x.ticks x.left x.life x.tag).toArray:=hD 9 (ye I 9 rfl);obtain⟨pb,jU,hpb,ub,-⟩:=hD 11 (ye I 11 rfl);obtain⟨ub,cF⟩:=ub cK;have HTH:=Q ub;obtain⟨u0,y0,q0⟩:=zI ub 0 (by omega);obtain⟨u1,y1,q1⟩:=zI ub 1 (by omega);obtain⟨u2,y2,q2⟩:=zI ub 2 (by omega);obtain⟨u3,y3,q3⟩:=zI ub 3 (by omega);obtain⟨u4,y4,q4⟩:=zI ub 4 (by omega);obtain⟨u5,y5,q5⟩:=zI ub 5 (by omega);simp only[Nat.zero_add] at y0 q0 y1 q1 y2 q2 y3 q3 y4 q4 y5 q5;clear I hD xk ub;rw[if_pos (by rfl)];unfold Oper.wp;go_simp;refine⟨upd f 12 F,by simp[upd,g9,jU],rgx_last (zg pb hpb (yw x.id x.side x.ticks x.left x.life x.tag) 0 hk (Z vV)) (Z HD) xJ (fun j hj hxj h=>dq_last j hj h (fun hj11=>?_)) trivial⟩;subst hj11;refine⟨pb,jU,hpb,fun h=>absurd trivial h,fun _=>⟨?_,?_⟩⟩
     ·exact yX hk pb 0 (yw x.id x.side x.ticks x.left x.life x.tag) (fun j hj=>Z HTH j hj)
     ·show pb<(hk.setCells pb 0 (yw x.id x.side x.ticks x.left x.life x.tag)).heap.size;simp only[World.setCells,World.setCell,Array.size_modify];exact cF
    | 13,K =>
     obtain rfl:=yb K;have g:f 10 = .bool fb:=hD 10 (ye I 10 rfl);clear I hD xk;rw[if_pos (by rfl)];unfold Oper.wp;go_simp;exact⟨upd f 13 (.bool fb),by simp[upd,g],zF (Z vV) (Z HD) (by decide) rfl⟩
    | i+14,K=>simp at K
   ·have pD:Hid (yl=(ll,lf,ts)):=mi_done (Z hI) bC
    have ub:wr.there (w.heap.size+1+1) 0 9:=fun j hj=>by
     have A:=(Z hK).block (w.heap.size+1+1) (by have:=Z kc;omega) (by have:=Z kc;have:=Z kE;omega);have:=(Z HX).2.2 j hj;rw[yQ (a:=(U (w.heap.size+1+1) (0+j))) A,World.frozen?_of_block (a:=(U (w.heap.size+1+1) (0+j))) A];exact this
    have xo:=Q (match_end (Z hM) (Z hK) (Z xZ) (Z kc) (Z kE) [H (next+1),.slice aq ll.length cq,H next,H s,H (tk pr),H lf,H li,yk tg,.slice av ts.length cv] rfl ub);have c0:=(Z hM).cells 0 _ rfl;have c1:=(Z hM).cells 1 _ rfl;have c2:=(Z hM).cells 2 _ rfl;have c3:=(Z hM).cells 3 _ rfl;have c4:=(Z hM).cells 4 _ rfl;have c5:=(Z hM).cells 5 _ rfl;have c6:=(Z hM).cells 6 _ rfl;have c7:=(Z hM).cells 7 _ rfl;have c8:=(Z hM).cells 8 _ rfl;simp only[Nat.zero_add] at c0 c1 c2 c3 c4 c5 c6 c7 c8;obtain⟨v0,z0,q0⟩:=zI ub 0 (by omega);obtain⟨v1,z1,q1⟩:=zI ub 1 (by omega);obtain⟨v2,z2,q2⟩:=zI ub 2 (by omega);obtain⟨v3,z3,q3⟩:=zI ub 3 (by omega);obtain⟨v4,z4,q4⟩:=zI ub 4 (by omega);obtain⟨v5,z5,q5⟩:=zI ub 5 (by omega);obtain⟨v6,z6,q6⟩:=zI ub 6 (by omega);obtain⟨v7,z7,q7⟩:=zI ub 7 (by omega);obtain⟨v8,z8,q8⟩:=zI ub 8 (by omega);simp only[Nat.zero_add] at z0 q0 z1 q1 z2 q2 z3 q3 z4 q4 z5 q5 z6 q6 z7 q7 z8 q8;clear ub;go_wp2_with fail
    try simp +zetaDelta only[Exit.noGoto_ret]
    change bodyPost _ _ _ _ _ (wr.setCells (w.heap.size+1+1) 0 [H (next+1),.slice aq ll.length cq,H next,H s,H (tk pr),H lf,H li,yk tg,.slice av ts.length cv]);generalize wr.setCells (w.heap.size+1+1) 0 [H (next+1),.slice aq ll.length cq,H next,H s,H (tk pr),H lf,H li,yk tg,.slice av ts.length cv]=WE at xo |-;obtain⟨d0,d1,d2,d3,d4,d5,d6,d7,d8⟩:=yE (Z xo).1
    try simp only[Exit.inBlock,Exit.then]
    refine bodyPost_ret (by simp[results,Tryz.results207,go_sem,d0,d1,d2,d3,d4,d5,d6,d7,d8];try rfl) rfl ?_
    rw[Z pD];exact⟨_,_,rfl,(Z xo).2.1,(Z xo).2.2.1,(Z xo).2.2.2⟩
 ·rintro x hb V i op ⟨f,rfl,xk,hD⟩ xm hx K xJ I
  have n8':i<8->¬ x[8]? = some true:=fun xH h8=>by
   have h7:=yf xm 8 rfl h8 7 rfl;have h6:=yf xm 8 rfl h8 6 rfl;have h5:=yf xm 6 rfl h6 5 rfl;have D:=yf xm 6 rfl h6 1 rfl;have h0:=yf xm 1 rfl D 0 rfl;have E:=yf xm 5 rfl h5 2 rfl;have h4:=yf xm 5 rfl h5 4 rfl;have h3:=yf xm 4 rfl h4 3 rfl
   have jr:∀j,j<8->x[j]? = some true:=fun j hj=>by
    rcases(by omega:j=0\/j=1\/j=2\/j=3\/j=4\/j=5\/j=6\/j=7) with rfl|rfl|rfl|rfl|rfl|rfl|rfl|rfl <;> assumption
   rw[jr i xH] at xJ;cases xJ
  clear xm;have xM:=Q xk;have HD:=Q hD;have uU:=Q (zq (Z bQ) xk ya);have z0:=zd (Z HX).1 xk (by omega) 0 _ rfl;have z1:=zd (Z HX).1 xk (by omega) 1 _ rfl;have o0:=zd (Z HX).2.1 xk (by omega) 0 _ rfl;have o1:=zd (Z HX).2.1 xk (by omega) 1 _ rfl;have o2:=zd (Z HX).2.1 xk (by omega) 2 _ rfl;have o3:=zd (Z HX).2.1 xk (by omega) 3 _ rfl;have o4:=zd (Z HX).2.1 xk (by omega) 4 _ rfl;have o5:=zd (Z HX).2.1 xk (by omega) 5 _ rfl;rw[Nat.zero_add] at z0 z1 o0 o1 o2 o3 o4 o5;clear hw3
  match i,K with
  | 0,K =>
   obtain rfl:=yb K;clear I hD xk;rw[if_pos (by rfl)];unfold Oper.wp;go_simp;exact⟨upd f 0 (.agg #[H next,.slice a l.length cap]),by simp[upd],zF (Z xM) (Z HD) (by decide) rfl⟩
  | 1,K =>
   obtain rfl:=yb K;have g:f 0 = .agg #[H next,.slice a l.length cap]:=hD 0 (ye I 0 rfl);have n8:=n8' (by omega);clear I hD xk;rw[if_pos (by rfl)];unfold Oper.wp;go_simp;refine(copyBook_any next _ l V (Z uU) hsl (by omega)).mono ?_;rintro e w4 ⟨v4,rfl,cE,xz⟩;obtain⟨a4,c4,rfl⟩:=gA (zP cE (by omega));exact⟨upd f 1 (.agg #[H next,.slice a4 l.length c4]),by simp[upd,g],ff (Z xM) (Z HD) xz (by decide) (dm_grow n8 xz) ⟨a4,c4,rfl,fun _=>ex cE (Z xM).size⟩⟩
  | 2,K =>
   obtain rfl:=yb K;clear I hD xk;rw[if_pos (by rfl)];unfold Oper.wp;go_simp;exact⟨upd f 2 (.agg #[H s,H ty,H li,H qt,yj pr,yk tg]),by simp[upd],zF (Z xM) (Z HD) (by decide) rfl⟩
  | 3,K =>
   obtain rfl:=yb K;clear I hD xk;rw[if_pos (by rfl)];unfold Oper.wp;go_simp;exact⟨upd f 3 (yp w 0),by simp[upd],zF (Z xM) (Z HD) (by decide) rfl⟩
  | 4,K =>
   obtain rfl:=yb K;have g:f 3=yp w 0:=hD 3 (ye I 3 rfl);clear I hD xk;rw[if_pos (by rfl)];unfold Oper.wp;go_simp;exact⟨upd f 4 (H next),by simp[upd,g],zF (Z xM) (Z HD) (by decide) rfl⟩
  | 5,K =>
   obtain rfl:=yb K;have g2:f 2 = .agg #[H s,H ty,H li,H qt,yj pr,yk tg]:=hD 2 (ye I 2 rfl);have g4:f 4=H next:=hD 4 (ye I 4 rfl);have n8:=n8' (by omega);clear I hD xk;rw[if_pos (by rfl)];unfold Oper.wp;go_simp;refine(order_any ⟨kk,s,ty,li,qt,ii,pr,tg⟩ next V).mono ?_;rintro e w4 ⟨rfl,xz⟩;exact⟨upd f 5 (.agg (yw next s (tk pr) qt li tg).toArray),by simp[upd,g2,g4],ff (Z xM) (Z HD) xz (by decide) (dm_grow n8 xz) rfl⟩
  | 6,K =>
   obtain rfl:=yb K;obtain⟨a4,c4,g1,jQ⟩:=hD 1 (ye I 1 rfl);have g5:f 5 = .agg (yw next s (tk pr) qt li tg).toArray:=hD 5 (ye I 5 rfl);have pp:=Q jQ;clear I hD xk jQ;rw[if_pos (by rfl)];unfold Oper.wp;go_simp;exact⟨upd f 6 (.agg #[H next,.slice a4 l.length c4,H next,H s,H (tk pr),H qt,H li,yk tg,.slice none 0 0]),by simp[upd,g1,g5],zF (Z xM) (Z HD) (by decide) ⟨a4,c4,rfl,Z pp⟩⟩
  | 7,K =>
   obtain rfl:=yb K;have n8:=n8' (by omega);clear I hD xk;rw[if_pos (by rfl)];unfold Oper.wp;go_simp;have xz:=lT V (J #[H 0,.slice none 0 0,H 0,H 0,H 0,H 0,H 0,yk ⟨#[]⟩,.slice none 0 0] 276);exact⟨upd f 7 (yp V 0),by simp[upd],ff (Z xM) (Z HD) xz (by decide) (dm_grow n8 xz) ⟨V.heap.size,rfl,(Z xM).size,fun _=>⟨zT V [H 0,.slice none 0 0,H 0,H 0,H 0,H 0,H 0,yk ⟨#[]⟩,.slice none 0 0] _,_,heap_alloc_new V _⟩,fun h=>absurd h n8⟩⟩
  | 8,K =>
   obtain rfl:=yb K;have n8:¬ x[8]? = some true:=by rw[xJ];simp
   obtain⟨a4,c4,g6,ho6⟩:=hD 6 (ye I 6 rfl);obtain⟨mb,g7,hmb,ub,-⟩:=hD 7 (ye I 7 rfl);obtain⟨ub,jm⟩:=ub n8;have HO6:=Q (ho6 n8);have HTH:=Q ub;have vV:=Q jm;obtain⟨u0,y0,q0⟩:=zI ub 0 (by omega);obtain⟨u1,y1,q1⟩:=zI ub 1 (by omega);obtain⟨u2,y2,q2⟩:=zI ub 2 (by omega);obtain⟨u3,y3,q3⟩:=zI ub 3 (by omega);obtain⟨u4,y4,q4⟩:=zI ub 4 (by omega);obtain⟨u5,y5,q5⟩:=zI ub 5 (by omega);obtain⟨u6,y6,q6⟩:=zI ub 6 (by omega);obtain⟨u7,y7,q7⟩:=zI ub 7 (by omega);obtain⟨u8,y8,q8⟩:=zI ub 8 (by omega);simp only[Nat.zero_add] at y0 q0 y1 q1 y2 q2 y3 q3 y4 q4 y5 q5 y6 q6 y7 q7 y8 q8;clear I hD xk ho6 ub jm;rw[if_pos (by rfl)];unfold Oper.wp;go_simp;refine⟨upd f 8 F,by simp[upd,g6,g7],rgx_last (zg mb hmb [H next,.slice a4 l.length c4,H next,H s,H (tk pr),H qt,H li,yk tg,.slice none 0 0] 0 V (Z xM)) (Z HD) xJ (fun j hj hxj h=>dm_last j hj h (fun hj7=>?_)) trivial⟩;subst hj7;refine⟨mb,g7,hmb,fun h=>absurd trivial h,fun _=>⟨a4,c4,?_⟩⟩;exact matS_made (c:=⟨kk,s,ty,li,qt,ii,pr,tg⟩) (Z HTH) (Z vV) (Z HO6) (by have:=(Z xM).size;omega)
  | i+9,K=>simp at K
theorem iB {c:Cm}{id:Int}:∀(n:Nat) (l:List Od) (left:Int) (ts:List Ev),GoodL l->0<=left->left<=1000000->GoodL (matL c id n l left ts).1/\0<=(matL c id n l left ts).2.1/\(matL c id n l left ts).2.1<=1000000
 | 0,l,left,ts,h,h0,D=>⟨h,h0,D⟩
 | n+1,l,left,ts,h,h0,D=>by
  rw[matL]
  by_cases hl:0<left
  ·rw[if_pos hl];cases hf:dN l (othS c.s) with
   | none=>exact⟨h,h0,D⟩
   | some o =>
    simp only
    by_cases hm:dY c o=true
    ·rw[if_pos hm];obtain⟨vK,_⟩:=fY hf;obtain⟨k,X⟩:=List.getElem?_of_mem vK;have K:=h.left o vK;rw[eX h.rise X,Int.toNat_natCast];exact iB n _ _ _ (fO h X (by omega) (by omega)).1 (by omega) (by omega)
    ·rw[if_neg hm];exact⟨h,h0,D⟩
  ·rw[if_neg hl];exact⟨h,h0,D⟩
def matR (next:Int)(c:Cm)(yl:List Od × Int × List Ev):Int:=
 if c.t=5/\0<yl.2.2.length then 11 else if c.t=4/\0<yl.2.1 then 12 else if next=1000000 then 13
 else if dP c.t=true/\0<yl.2.1 then(if fullB (yl.1 ++ [{ ordO c next with left:=yl.2.1 }])=true then 13 else 0) else 0
theorem below_kept {B0 B mb:Nat}{w W W':World}(h:Below B0 w W)(X:KeptBut mb B W W')(hB:B0<=B)(hm:B<=mb):Below B0 w W':=
 ⟨X.os.trans h.os,X.tape.trans h.tape,X.output.trans h.output,yN h.size X.size,fun k xH=>(X.block k (by omega) (by omega)).trans (h.block k xH)⟩
theorem lN (next:Int)(vb:Value)(l:List Od)(c:Cm)(w:World)(hr:RdR Od.vs 6 w vb l)(hs:SlOk vb)(M:GoodL l)(h0:0<=next)(D:next<=1000000)(cG:0<=c.q)(aS:c.q<=1000000) :
  Calls Tryz.prog 179 #[.agg #[H next,vb],noV c] w fun e w'=>e=ym (H (matR next c (matL c next 21 l c.q [])))/\yn w w':=by
 have HR:=Q hr;have HG:=Q M;have jS:=Q hs;have HFG:=Q (iB (c:=c) (id:=next) 21 l c.q [] M cG aS);have qu:Hid (0<=next/\next<=1000000/\0<=c.q/\c.q<=1000000):=⟨h0,D,cG,aS⟩;obtain⟨a,cap,rfl,xD,hc⟩:=hr;clear hc M hs h0 D cG aS xD;obtain⟨kk,s,ty,li,qt,ii,pr,tg⟩:=c;have HCA:Hid (∀W:World,RdR Od.vs 6 W (.slice a l.length cap) l->Calls Tryz.prog 207 #[.agg #[H next,.slice a l.length cap],.agg #[H s,H ty,H li,H qt,yj pr,yk tg]] W _):=fun W hW=>match_any next _ l ⟨kk,s,ty,li,qt,ii,pr,tg⟩ W hW (Z jS) (Z HG) (Z qu).1 (Z qu).2.1 (Z qu).2.2.1 (Z qu).2.2.2
 generalize matL ⟨kk,s,ty,li,qt,ii,pr,tg⟩ next 21 l qt []=yl at HFG HCA |-;obtain⟨FL,Fl,Ft⟩:=yl;unfold noV;simp only at *;have xI:=zh w (J #[H next,.slice a l.length cap] 41);have uc:((w.alloc (J #[H next,.slice a l.length cap] 41)).alloc (J #[H s,H ty,H li,H qt,yj pr,yk tg] 96)).heap.size=w.heap.size+1+1:=by rw[zh,xI]
 have r1:=zo w [H next,.slice a l.length cap] 41;have r2:=zo (w.alloc (J #[H next,.slice a l.length cap] 41)) [H s,H ty,H li,H qt,yj pr,yk tg] 96;rw[xI] at r2;have jp:Below (w.heap.size+1) (w.alloc (J #[H next,.slice a l.length cap] 41)) ((w.alloc (J #[H next,.slice a l.length cap] 41)).alloc (J #[H s,H ty,H li,H qt,yj pr,yk tg] 96)):=(Below.refl _ _).alloc (by rw[xI];omega) _;have xq:Hid (yn w ((w.alloc (J #[H next,.slice a l.length cap] 41)).alloc (J #[H s,H ty,H li,H qt,yj pr,yk tg] 96))):=(lT _ _).alloc (by rw[xI];omega) _;have HX:Hid (_/\_):=⟨zd r1 jp (by omega),r2⟩;have vL:=Q uc;clear xI uc r1 r2 jp;go_enter Tryz.func179,Tryz.ntmps179;refine lX fun ho xV=>?_;go_wp2_with fail;refine Z xV _ _ ?_;clear xV;refine lX fun K2 aA=>?_;go_wp2_with fail;generalize ((w.alloc (J #[H next,.slice a l.length cap] 41)).alloc (J #[H s,H ty,H li,H qt,yj pr,yk tg] 96))=X2 at xq HX vL |-;have HX:Hid (X2.rangeAt w.heap.size 0 [H next,.slice a l.length cap]/\X2.rangeAt (w.heap.size+1) 0 [H s,H ty,H li,H qt,yj pr,yk tg]):=Z HX;refine(Z HCA X2 (zq (Z HR) (Z xq) ya)).mono ?_;rintro e w4 ⟨vq,vt,rfl,hoq,het,xz⟩
 obtain⟨av,cv,rfl⟩:∃a c,vt = .slice a Ft.length c:=by
  rcases het.2 with⟨e,e2⟩|⟨g,cap,xr,e,_⟩
  ·exact⟨none,0,by rw[e,e2]⟩
  ·exact⟨_,_,e⟩
 obtain⟨aq,cq,rfl⟩:∃a c,vq = .slice a FL.length c:=by
  rcases hoq.2 with⟨e,e2⟩|⟨g,cap,xr,e,_⟩
  ·exact⟨none,0,by rw[e,e2]⟩
  ·exact⟨_,_,e⟩
 have kf:=lT w4 (J #[H (next+1),.slice aq FL.length cq,H next,H s,H (tk pr),H Fl,H li,yk tg,.slice av Ft.length cv] 276);have HMS:Hid (MatS w4.heap.size X2.heap.size (w4.alloc (J #[H (next+1),.slice aq FL.length cq,H next,H s,H (tk pr),H Fl,H li,yk tg,.slice av Ft.length cv] 276)) (next+1) (.slice aq FL.length cq) FL ⟨next,s,tk pr,Fl,li,tg⟩ (.slice av Ft.length cv) Ft):=⟨zo w4 [H (next+1),.slice aq FL.length cq,H next,H s,H (tk pr),H Fl,H li,yk tg,.slice av Ft.length cv] _,zT w4 [H (next+1),.slice aq FL.length cq,H next,H s,H (tk pr),H Fl,H li,yk tg,.slice av Ft.length cv] _,zK hoq kf,fc het kf,⟨_,heap_alloc_new w4 _⟩,yN xz.size (by rw[zh];omega)⟩;have kh:Hid (yn X2 (w4.alloc (J #[H (next+1),.slice aq FL.length cq,H next,H s,H (tk pr),H Fl,H li,yk tg,.slice av Ft.length cv] 276))):=xz.trans (kf.mono xz.size);have kE:Hid (w.heap.size<=X2.heap.size/\X2.heap.size<=w4.heap.size):=⟨by have:=Z vL;omega,xz.size⟩;clear kf hoq het xz;go_wp2_with fail;refine Z aA _ _ ?_;generalize (w4.alloc (J #[H (next+1),.slice aq FL.length cq,H next,H s,H (tk pr),H Fl,H li,yk tg,.slice av Ft.length cv] 276))=W6 at HMS kh |-;generalize w4.heap.size=mb at HMS kE |-;have hm:w.heap.size+1<X2.heap.size:=by have:=Z vL;omega
 have k0:=zd (Z HX).1 (Z kh) (by omega) 0 _ rfl;have o0:=zd (Z HX).2 (Z kh) (by omega) 0 _ rfl;have o1:=zd (Z HX).2 (Z kh) (by omega) 1 _ rfl;have o2:=zd (Z HX).2 (Z kh) (by omega) 2 _ rfl;have o3:=zd (Z HX).2 (Z kh) (by omega) 3 _ rfl;have o4:=zd (Z HX).2 (Z kh) (by omega) 4 _ rfl;have o5:=zd (Z HX).2 (Z kh) (by omega) 5 _ rfl;have y5:W6.cell? (U mb 5)=some (H Fl):=(Z HMS).cells 5 _ rfl;have y8:W6.cell? (U mb 8)=some (.slice av Ft.length cv):=(Z HMS).cells 8 _ rfl;simp only[Nat.zero_add] at k0 o0 o1 o2 o3 o4 o5;have vT:=Q ((Z xq).trans ((Z kh).mono (Z xq).size));have HMR:Hid (matR next ⟨kk,s,ty,li,qt,ii,pr,tg⟩ (FL,Fl,Ft)=if ty=5/\0<Ft.length then 11 else if ty=4/\0<Fl then 12 else if next=1000000 then 13 else if dP ty=true/\0<Fl then(if fullB (FL ++ [⟨next,s,tk pr,Fl,li,tg⟩])=true then 13 else 0) else 0):=rfl
 clear HCA HX aA
 by_cases jz:ty=5/\0<Ft.length
 ·obtain⟨rfl,hl⟩:=jz;have kQ:(0:Int)<Ft.length:=by omega
  have HK:Hid (matR next ⟨kk,s,5,li,qt,ii,pr,tg⟩ (FL,Fl,Ft)=11):=by have:=Z HMR;rw[if_pos ⟨rfl,hl⟩] at this;exact this
  clear hl;go_wp2_with fail;go_ret;exact⟨zt (Z HK).symm,Z vT⟩
 have jx:Hid (_ = _):=(Z HMR).trans (if_neg jz);clear HMR
 by_cases h5:ty=5
 ·subst h5;have kQ:¬ (0:Int)<Ft.length:=fun h=>jz ⟨rfl,by omega⟩;have xT:Hid (_ = _):=(Z jx).trans (if_neg (fun h=>by cases h.1));clear jx;clear jz
  by_cases qw:next=1000000
  ·subst qw;have HK:Hid (matR 1000000 ⟨kk,s,5,li,qt,ii,pr,tg⟩ (FL,Fl,Ft)=13):=by have:=Z xT;rw[if_pos rfl] at this;exact this
   go_wp2_with fail;go_ret;exact⟨zt (Z HK).symm,Z vT⟩
  have hnb:(next==1000000)=false:=by rw[xd];exact qw
  have pO:Hid (_ = _):=(Z xT).trans (if_neg qw);clear qw xT;go_wp2_with fail;refine(iC ⟨kk,s,5,li,qt,ii,pr,tg⟩ W6).mono ?_;rintro e w7 ⟨rfl,qQ⟩;dsimp only;have qp:=Q (iU (Z HMS) qQ);have kA:=Q (lW (Z vT) qQ);have y7:w7.cell? (U mb 5)=some (H Fl):=(Z qp).cells 5 _ rfl;clear qQ k0 o0 o1 o2 o3 o4 o5 y5 y8;cases pu:dP 5
  ·have HK:Hid (matR next ⟨kk,s,5,li,qt,ii,pr,tg⟩ (FL,Fl,Ft)=0):=by
    have:=Z pO;rw[if_neg (fun h=>by rw[pu] at h;cases h.1)] at this;exact this
   clear pu;go_wp2_with fail;go_ret;exact⟨zt (Z HK).symm,Z kA⟩
  ·by_cases hFl:0<Fl
   ·have HMRG:Hid (matR next ⟨kk,s,5,li,qt,ii,pr,tg⟩ (FL,Fl,Ft)=if fullB (FL ++ [⟨next,s,tk pr,Fl,li,tg⟩])=true then 13 else 0):=by
     have:=Z pO;rw[if_pos ⟨pu,hFl⟩] at this;exact this
    clear pu;go_wp2_with fail;refine(rest_any mb X2.heap.size (next+1) _ FL ⟨next,s,tk pr,Fl,li,tg⟩ _ Ft w7 (Z qp) (by have:=(Z HFG).1.len;omega)).mono ?_;rintro e w8 ⟨vq8,rfl,pd,hK8⟩;have HM8:=Q pd;have cM:=Q (below_kept (Z kA) hK8 (Z kE).1 (Z kE).2);clear pd hK8 y7;go_wp2_with fail
    refine(isTooFull_any mb X2.heap.size (next+1) vq8 _ ⟨next,s,tk pr,Fl,li,tg⟩ _ Ft w8 (Z HM8) (by have:=(Z HFG).1.len;rw[yP];simp only[List.length_cons,List.length_nil];omega) (by
     intro o' qF;have hfg:=Z HFG;rcases List.mem_append.1 qF with h|h
     ·have:=hfg.1.left o' h;omega
     ·rw[List.mem_singleton] at h;subst h;exact hfg.2)).mono ?_
    rintro e w9 ⟨rfl,jk⟩;have bH:=Q (lW (Z cM) jk);clear jk;cases hfu:fullB (FL ++ [⟨next,s,tk pr,Fl,li,tg⟩])
    ·have HK:Hid (matR next ⟨kk,s,5,li,qt,ii,pr,tg⟩ (FL,Fl,Ft)=0):=by have:=Z HMRG;rw[hfu] at this;exact this
     clear hfu;go_wp2_with fail;go_ret;exact⟨zt (Z HK).symm,Z bH⟩
    ·have HK:Hid (matR next ⟨kk,s,5,li,qt,ii,pr,tg⟩ (FL,Fl,Ft)=13):=by have:=Z HMRG;rw[hfu] at this;exact this
     clear hfu;go_wp2_with fail;go_ret;exact⟨zt (Z HK).symm,Z bH⟩
   ·have HK:Hid (matR next ⟨kk,s,5,li,qt,ii,pr,tg⟩ (FL,Fl,Ft)=0):=by have:=Z pO;rw[if_neg (fun h=>hFl h.2)] at this;exact this
    clear pu;go_wp2_with fail;go_ret;exact⟨zt (Z HK).symm,Z kA⟩
 have xX:(ty==5)=false:=by rw[xd];exact h5
 clear jz
 by_cases qv:ty=4/\0<Fl
 ·obtain⟨rfl,hl⟩:=qv;have HK:Hid (matR next ⟨kk,s,4,li,qt,ii,pr,tg⟩ (FL,Fl,Ft)=12):=by have:=Z jx;rw[if_pos ⟨rfl,hl⟩] at this;exact this
  clear h5 xX;go_wp2_with fail;go_ret;exact⟨zt (Z HK).symm,Z vT⟩
 have xT:Hid (_ = _):=(Z jx).trans (if_neg qv);clear jx
 by_cases h4:ty=4
 ·subst h4;have kQ:¬ 0<Fl:=fun h=>qv ⟨rfl,h⟩;clear qv h5 xX
  by_cases qw:next=1000000
  ·subst qw;have HK:Hid (matR 1000000 ⟨kk,s,4,li,qt,ii,pr,tg⟩ (FL,Fl,Ft)=13):=by have:=Z xT;rw[if_pos rfl] at this;exact this
   go_wp2_with fail;go_ret;exact⟨zt (Z HK).symm,Z vT⟩
  have hnb:(next==1000000)=false:=by rw[xd];exact qw
  have pO:Hid (_ = _):=(Z xT).trans (if_neg qw);clear qw xT;go_wp2_with fail;refine(iC ⟨kk,s,4,li,qt,ii,pr,tg⟩ W6).mono ?_;rintro e w7 ⟨rfl,qQ⟩;dsimp only;have qp:=Q (iU (Z HMS) qQ);have kA:=Q (lW (Z vT) qQ);have y7:w7.cell? (U mb 5)=some (H Fl):=(Z qp).cells 5 _ rfl;clear qQ k0 o0 o1 o2 o3 o4 o5 y5 y8;cases pu:dP 4
  ·have HK:Hid (matR next ⟨kk,s,4,li,qt,ii,pr,tg⟩ (FL,Fl,Ft)=0):=by
    have:=Z pO;rw[if_neg (fun h=>by rw[pu] at h;cases h.1)] at this;exact this
   clear pu;go_wp2_with fail;go_ret;exact⟨zt (Z HK).symm,Z kA⟩
  ·exact absurd pu (by decide)
 have xz:(ty==4)=false:=by rw[xd];exact h4
 clear qv h5 h4
 by_cases qw:next=1000000
 ·subst qw;have HK:Hid (matR 1000000 ⟨kk,s,ty,li,qt,ii,pr,tg⟩ (FL,Fl,Ft)=13):=by have:=Z xT;rw[if_pos rfl] at this;exact this
  go_wp2_with fail;go_ret;exact⟨zt (Z HK).symm,Z vT⟩
 have hnb:(next==1000000)=false:=by rw[xd];exact qw
 have pO:Hid (_ = _):=(Z xT).trans (if_neg qw);clear qw xT;go_wp2_with fail;refine(iC ⟨kk,s,ty,li,qt,ii,pr,tg⟩ W6).mono ?_;rintro e w7 ⟨rfl,qQ⟩;dsimp only;have qp:=Q (iU (Z HMS) qQ);have kA:=Q (lW (Z vT) qQ);have y7:w7.cell? (U mb 5)=some (H Fl):=(Z qp).cells 5 _ rfl;clear qQ k0 o0 o1 o2 o3 o4 o5 y5 y8;cases pu:dP ty
 ·have HK:Hid (matR next ⟨kk,s,ty,li,qt,ii,pr,tg⟩ (FL,Fl,Ft)=0):=by
   have:=Z pO;rw[if_neg (fun h=>by rw[pu] at h;cases h.1)] at this;exact this
  clear pu;go_wp2_with fail;go_ret;exact⟨zt (Z HK).symm,Z kA⟩
 ·by_cases hFl:0<Fl
  ·have HMRG:Hid (matR next ⟨kk,s,ty,li,qt,ii,pr,tg⟩ (FL,Fl,Ft)=if fullB (FL ++ [⟨next,s,tk pr,Fl,li,tg⟩])=true then 13 else 0):=by
    have:=Z pO;rw[if_pos ⟨pu,hFl⟩] at this;exact this
   clear pu;go_wp2_with fail;refine(rest_any mb X2.heap.size (next+1) _ FL ⟨next,s,tk pr,Fl,li,tg⟩ _ Ft w7 (Z qp) (by have:=(Z HFG).1.len;omega)).mono ?_;rintro e w8 ⟨vq8,rfl,pd,hK8⟩;have HM8:=Q pd;have cM:=Q (below_kept (Z kA) hK8 (Z kE).1 (Z kE).2);clear pd hK8 y7;go_wp2_with fail
   refine(isTooFull_any mb X2.heap.size (next+1) vq8 _ ⟨next,s,tk pr,Fl,li,tg⟩ _ Ft w8 (Z HM8) (by have:=(Z HFG).1.len;rw[yP];simp only[List.length_cons,List.length_nil];omega) (by
    intro o' qF;have hfg:=Z HFG;rcases List.mem_append.1 qF with h|h
    ·have:=hfg.1.left o' h;omega
    ·rw[List.mem_singleton] at h;subst h;exact hfg.2)).mono ?_
   rintro e w9 ⟨rfl,jk⟩;have bH:=Q (lW (Z cM) jk);clear jk;cases hfu:fullB (FL ++ [⟨next,s,tk pr,Fl,li,tg⟩])
   ·have HK:Hid (matR next ⟨kk,s,ty,li,qt,ii,pr,tg⟩ (FL,Fl,Ft)=0):=by have:=Z HMRG;rw[hfu] at this;exact this
    clear hfu;go_wp2_with fail;go_ret;exact⟨zt (Z HK).symm,Z bH⟩
   ·have HK:Hid (matR next ⟨kk,s,ty,li,qt,ii,pr,tg⟩ (FL,Fl,Ft)=13):=by have:=Z HMRG;rw[hfu] at this;exact this
    clear hfu;go_wp2_with fail;go_ret;exact⟨zt (Z HK).symm,Z bH⟩
  ·have HK:Hid (matR next ⟨kk,s,ty,li,qt,ii,pr,tg⟩ (FL,Fl,Ft)=0):=by have:=Z pO;rw[if_neg (fun h=>hFl h.2)] at this;exact this
   clear pu;go_wp2_with fail;go_ret;exact⟨zt (Z HK).symm,Z kA⟩
end Go.Proofs.YtbghmldggahjiaaGreatDoor
