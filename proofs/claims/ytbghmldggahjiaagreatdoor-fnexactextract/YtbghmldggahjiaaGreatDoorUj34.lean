/-.-/
import Derived.Test.YtbghmldggahjiaaGreatDoorUj30
set_option linter.unusedVariables false
set_option maxHeartbeats 6400000
set_option maxRecDepth 100000
namespace Go.Proofs.YtbghmldggahjiaaGreatDoor
open Go.RowKit
theorem ld {B b:Nat}{v:Value}{l:List Ev}(A:some b≠v.ownBlock):∀(vs:List Value) (o:Nat) (W:World),ERow W B v l->ERow (W.setCells b o vs) B v l
 | [],_,_,h=>h
 | u::us,o,W,h=>by rw[World.setCells];exact ld A us (o+1) _ (dT h A o u)
def MaI (c:Cm)(next:Int)(w:World)(v:Value)(l:List Od)(tt:Int)(yl:List Od × Int × List Ev)(m:Nat)(lv ev kv:Value)(wr:World):Prop:=
 ∃(l':List Od) (left:Int) (ts:List Ev) (k:Int),kv=H k/\((lv=v/\l'=l)\/ORow wr (w.heap.size+1+1) lv l')/\ERow wr (w.heap.size+1+1) ev ts/\NexS l' ⟨next,c.s,tt,left,c.l,c.g⟩ k/\MI c next yl l' left ts /\
  wr.rangeAt w.heap.size 0 [H next,H c.s,H tt,H left,H c.l,yk c.g]/\wr.there w.heap.size 0 6/\wr.there (w.heap.size+1) 0 6/\yn w wr/\w.heap.size+1+1<=wr.heap.size/\2*l'.length+(if 0<left then 1 else 0)<=m
theorem ma_end {c:Cm}{next tt:Int}{yl:List Od × Int × List Ev}{l':List Od}{left:Int}{ts:List Ev}(htt:tt=tkS c.p)(hs:c.s=1\/c.s=2)(hp:prcB c=true)(hm:MI c next yl l' left ts)(h:left=0\/dN l' (othS c.s)=none \/ ∃o,dN l' (othS c.s)=some o/\eT c.s tt o=false):yl=(l',left,ts):=by
 subst htt;rcases h with h|h|⟨o,h,E⟩
 ·exact mi_done hm (by omega)
 ·exact mi_none hm h
 ·rw[cross_meet hp] at E;exact mi_stop hm h E
def MatEnd (w:World)(v:Value)(l:List Od)(w':World)(v' ve:Value)(yl:List Od × Int × List Ev):Prop:=
 ((v'=v/\yl.1=l)\/ORow w' w.heap.size v' yl.1)/\ERow w' w.heap.size ve yl.2.2/\yn w w'
theorem eRow_base {W:World}{B B':Nat}{v:Value}{l:List Ev}(h:ERow W B v l)(hB:B'<=B):ERow W B' v l:=
 ⟨h.1,by
  rcases h.2 with h|⟨g',c',xr,D,E,h3⟩
  ·exact .inl h
  ·exact .inr ⟨g',c',xr,D,yN hB E,h3⟩⟩
theorem l04Match_any (v:Value)(l:List Od)(c:Cm)(next:Int)(w:World)(hr:RdR Od.vs 6 w v l)(M:GoodL l)(hs:c.s=1\/c.s=2)(hp:prcB c=true)(cG:0<=c.q)(aS:c.q<=1000000) :
  Calls Tryz.prog 219 #[v,.agg #[H next,H c.s,H (tkS c.p),H c.q,H c.l,yk c.g]] w fun e w'=>∃v' ve,e = .returned (.tuple #[v',.agg #[H next,H c.s,H (tkS c.p),H (matL c next 21 l c.q []).2.1,H c.l,yk c.g],ve])/\MatEnd w v l w' v' ve (matL c next 21 l c.q []):=by
 obtain⟨i0,vA,uE,uw,uC⟩:=info_parts infoEv;have HMI0:=Q (mi_start (c:=c) (id:=next) M cG aS);have HR:=Q hr;have jM:=Q M;have HS:=Q hs;have HP:=Q hp;generalize htt:tkS c.p=tt;have ps:=Q htt.symm;generalize matL c next 21 l c.q []=yl at HMI0 |-;obtain⟨a,cap,rfl,xD,hc⟩:=hr;obtain⟨ck,cs,ct,cl,cq,ci,cp,cg⟩:=c;simp only at hs cG aS htt ps HS |-;clear hc M hp xD htt;have xI:=zh w (Obj.cells #[H next,H cs,H tt,H cq,H cl,yk cg] 98);have uc:((w.alloc (Obj.cells #[H next,H cs,H tt,H cq,H cl,yk cg] 98)).alloc (Obj.cells #[H 0,H 0,H 0,H 0,H 0,yk ⟨#[]⟩] 98)).heap.size=w.heap.size+1+1:=by rw[zh,xI]
 have ja:(((w.alloc (Obj.cells #[H next,H cs,H tt,H cq,H cl,yk cg] 98)).alloc (Obj.cells #[H 0,H 0,H 0,H 0,H 0,yk ⟨#[]⟩] 98)).alloc (Obj.cells #[] 89)).heap.size=w.heap.size+1+1+1:=by rw[zh,uc]
 have r1:=zo w [H next,H cs,H tt,H cq,H cl,yk cg] 98;have t1:=zT w [H next,H cs,H tt,H cq,H cl,yk cg] 98;have t2:=zT (w.alloc (Obj.cells #[H next,H cs,H tt,H cq,H cl,yk cg] 98)) [H 0,H 0,H 0,H 0,H 0,yk ⟨#[]⟩] 98;rw[xI] at t2;have e3:=World.ownsRow_made (base:=w.heap.size+1+1) (e:=89) (size:=14) ((w.alloc (Obj.cells #[H next,H cs,H tt,H cq,H cl,yk cg] 98)).alloc (Obj.cells #[H 0,H 0,H 0,H 0,H 0,yk ⟨#[]⟩] 98)) #[] 0 (by omega) (by decide) rfl;rw[uc] at e3;have b1:=lT w (Obj.cells #[H next,H cs,H tt,H cq,H cl,yk cg] 98);have b2:Below (w.heap.size+1) (w.alloc (Obj.cells #[H next,H cs,H tt,H cq,H cl,yk cg] 98)) ((w.alloc (Obj.cells #[H next,H cs,H tt,H cq,H cl,yk cg] 98)).alloc (Obj.cells #[H 0,H 0,H 0,H 0,H 0,yk ⟨#[]⟩] 98)):=(Below.refl _ _).alloc (by omega) _;have b3:Below (w.heap.size+1+1) ((w.alloc (Obj.cells #[H next,H cs,H tt,H cq,H cl,yk cg] 98)).alloc (Obj.cells #[H 0,H 0,H 0,H 0,H 0,yk ⟨#[]⟩] 98)) (((w.alloc (Obj.cells #[H next,H cs,H tt,H cq,H cl,yk cg] 98)).alloc (Obj.cells #[H 0,H 0,H 0,H 0,H 0,yk ⟨#[]⟩] 98)).alloc (Obj.cells #[] 89)):=(Below.refl _ _).alloc (by omega) _;have b23:=b2.trans (b3.mono (by omega));have HX:Hid (_/\_/\_/\_):=⟨zd r1 b23 (by omega),zl t1 b23 (by omega),zl t2 b3 (by omega),e3⟩;have xZ:=Q (b1.trans (b23.mono (by omega)));have kc:=Q ja;clear xI uc ja r1 t1 t2 b1 b2 b3 b23 e3;go_enter Tryz.func219,Tryz.ntmps219;refine lX fun ho xV=>?_;go_wp2_with fail;refine Z xV _ _ ?_;clear xV;refine lX fun ho xV=>?_;go_wp2_with fail;refine Z xV _ _ ?_;clear xV;generalize (((w.alloc (Obj.cells #[H next,H cs,H tt,H cq,H cl,yk cg] 98)).alloc (Obj.cells #[H 0,H 0,H 0,H 0,H 0,yk ⟨#[]⟩] 98)).alloc (Obj.cells #[] 89))=hk at HX xZ kc |-;have HX:Hid (hk.rangeAt w.heap.size 0 [H next,H cs,H tt,H cq,H cl,yk cg]/\hk.there w.heap.size 0 6/\hk.there (w.heap.size+1) 0 6/\hk.ownsRow (w.heap.size+1+1) 89 14 (.slice (some (U (w.heap.size+1+1) 0)) 0 0) 0 []):=Z HX;obtain⟨c0,c1,c2,c3,c4,c5⟩:=yC (Z HX).1;go_wp2_with fail;refine(lG _ l ⟨next,cs,tt,cq,cl,cg⟩ hk (zq (Z HR) (Z xZ) ya) (Z jM).rise (by have:=(Z jM).len;omega) (Z HS)).mono ?_;rintro e w2 ⟨k,rfl,qw,xE⟩
 have qO:Hid (MaI ⟨ck,cs,ct,cl,cq,ci,cp,cg⟩ next w (.slice a l.length cap) l tt yl (2*l.length+1) (.slice a l.length cap) (.slice (some (U (w.heap.size+1+1) 0)) 0 0) (H k) w2):=by
  have ja:=Z kc;refine⟨l,cq,[],k,rfl,.inl ⟨rfl,rfl⟩,?_,qw,Z HMI0,zd (Z HX).1 xE (by omega),zl (Z HX).2.1 xE (by omega),zl (Z HX).2.2.1 xE (by omega),(Z xZ).trans (xE.mono (Z xZ).size),by have:=xE.size;omega,by split <;> omega⟩;exact fc (l:=[]) (Z HX).2.2.2 xE
 clear qw xE c0 c1 c2 c3 c4 c5 HX xZ kc HMI0;go_wp2_with fail
 go_loopg [0,7,8] (2*l.length+1) (fun m lv ev kv wr=>MaI ⟨ck,cs,ct,cl,cq,ci,cp,cg⟩ next w (.slice a l.length cap) l tt yl m lv ev kv wr)
 case atStart=>exact Z qO
 case round =>
  obtain⟨l',left,ts,kx,rfl,hlv,her,qw,hmi,hrt,ht0,ht1,oP,uX,hme⟩:=hrel;have pC:=Q her;have HMI:=Q hmi;have am:=Q hrt;have HT0:=Q ht0;have jE:=Q ht1;have vT:=Q oP;have bN:=Q hlv
  have uU:Hid (RdR Od.vs 6 wr u0 l'):=by
   rcases hlv with⟨rfl,rfl⟩|h
   ·exact zq (Z HR) oP ya
   ·exact zP h (by have:=hmi.good.len;omega)
  have xD:=hmi.good.len;have oS:=hmi.l0;have hl1:=hmi.l1;have hfew:=hmi.few;clear her hrt ht0 ht1 oP qO hlv;rcases qw with⟨rfl,uN⟩|⟨i,o,rfl,hi,kO,bB,bx,bC⟩
  ·have HF:=Q (ma_end (Z ps) (Z HS) (Z HP) hmi uN);clear uN hmi;go_wp2_with fail;obtain⟨V0,bw⟩:∃V:World,V = { wr with drawn:=wr.drawn+1 }:=⟨_,rfl⟩;have bN:Hid ((u0 = .slice a l.length cap/\l'=l)\/ORow V0 (w.heap.size+1+1) u0 l'):=by rw[bw];exact Z bN
   have pC:Hid (ERow V0 (w.heap.size+1+1) u7 ts):=by rw[bw];exact Z pC
   have am:Hid (V0.rangeAt w.heap.size 0 [H next,H cs,H tt,H left,H cl,yk cg]):=by rw[bw];exact Z am
   have jE:Hid (V0.there (w.heap.size+1) 0 6):=by rw[bw];exact Z jE
   have vT:Hid (yn w V0):=by rw[bw];exact(Z vT).trans ⟨rfl,rfl,rfl,Nat.le_refl _,fun _ _=>rfl⟩
   obtain⟨V1,oj⟩:∃V:World,V=V0.setCells (w.heap.size+1) 0 [H next,H cs,H tt,H left,H cl,yk cg]:=⟨_,rfl⟩;have vW:Hid (V1.rangeAt (w.heap.size+1) 0 [H next,H cs,H tt,H left,H cl,yk cg]):=by rw[oj];exact yX V0 _ 0 _ (fun j hj=>Z jE j hj)
   have xo:Hid (MatEnd w (.slice a l.length cap) l V1 u0 u7 yl):=by
    rw[Z HF];refine⟨?_,?_,?_⟩
    ·rcases Z bN with h|h
     ·exact .inl h
     ·exact .inr (by rw[oj];exact ex (ir (by omega) _ _ _ h) (by omega))
    ·rw[oj];refine eRow_base (ld (fun e=>?_) _ _ _ (Z pC)) (show w.heap.size<=w.heap.size+1+1 by omega);have:=((Z pC).lt _ e.symm).1;omega
    ·rw[oj];exact zg _ (by omega) _ _ _ (Z vT)
   have HFL:Hid (yl.2.1=left):=by show _ = _;rw[Z HF]
   have HV0:=Q bw;have HV1:=Q oj;clear bw oj bN pC vT;refine zL (R8A (fun f=>{ tmps:=#[u0,.agg #[H next,H cs,H tt,H cq,H cl,yk cg],F,xj w.heap.size 0,f 3,xj (w.heap.size+1) 0,f 5,u7,H (-1),u9,.slice (some (U (w.heap.size+1+1) 0)) 0 0,.slice a l.length cap,.agg #[H next,H cs,H tt,H cq,H cl,yk cg],H k,H (-1),.bool false,u16,u17,u18,u19,u20,u21,u22,u23,u24,u25,u26,u27,u28,u29,u30,u31,f 0,f 1,f 2],defers:=[] }) u0 (.agg #[H next,H cs,H tt,H left,H cl,yk cg]) u7 V0 V1 V1) (by kernel_rfl) ?_ ?_ ?_
   ·exact⟨fun j=>if j=3 then .slice none 0 0 else if j=5 then .slice none 0 0 else F,rfl,⟨by simp,by simp,by simp,by simp,by simp,fun _=>(Z HV0).symm,by simp,by simp⟩⟩
   ·rintro x hb V' ⟨f,rfl,hR⟩ hx xU;have xv:=iw xU hx (by kernel_rfl);have e3:=hR.f3 (xv 3 (by simp));have e5:=hR.f5 (xv 5 (by simp));have eW:=hR.s2 (xv 4 (by simp)) (xv 5 (by simp));subst eW;simp only[e3,e5];clear hR xv e3 e5 xU hx;obtain⟨d0,d1,d2,d3,d4,d5⟩:=yC (Z vW);go_wp2_with fail
    try simp +zetaDelta only[Exit.noGoto_ret]
    try simp only[Exit.inBlock,Exit.then]
    refine bodyPost_ret (by simp[results,Tryz.results219,go_sem,d0,d1,d2,d3,d4,d5];try rfl) rfl ?_;exact⟨u0,u7,by rw[Z HFL],Z xo⟩
   ·rintro x hb V' i' o' ⟨f,rfl,hR⟩ xm hx K xJ I
    have n5:i'<5->x[5]? = some false:=fun xH=>by
     rcases fj hx (show 5<6 by omega) with h|h
     ·exact h
     ·have:=xm 5 _ rfl h ⟨i',.phase⟩ (by rcases(by omega:i'=0\/i'=1\/i'=2\/i'=3\/i'=4) with rfl|rfl|rfl|rfl|rfl <;> simp) rfl;rw[xJ] at this;cases this
    have n4:i'=0\/i'=1\/i'=3->x[4]? = some false:=fun xH=>by
     rcases fj hx (show 4<6 by omega) with h|h
     ·exact h
     ·have:=xm 4 _ rfl h ⟨i',.phase⟩ (by rcases xH with rfl|rfl|rfl <;> simp) rfl;rw[xJ] at this;cases this
    have xu:=Q hR;clear xm
    match i',K with
    | 0,K =>
     obtain rfl:=yb K;clear I hR;rw[if_pos (by rfl)];unfold Oper.wp;go_simp;exact⟨upd f 0 u0,by simp[upd],r8_val (Z xu) 0 _ (by omega) (fun _=>rfl) (by omega) (by omega) (by omega)⟩
    | 1,K =>
     obtain rfl:=yb K;have eV:=hR.s0 (n4 (by omega));subst eV;obtain⟨c0,c1,c2,c3,c4,c5⟩:=yC (Z am);clear I hR;rw[if_pos (by rfl)];unfold Oper.wp;go_simp;exact⟨upd f 1 (.agg #[H next,H cs,H tt,H left,H cl,yk cg]),by simp[upd],r8_val (Z xu) 1 _ (by omega) (by omega) (fun _=>rfl) (by omega) (by omega)⟩
    | 2,K =>
     obtain rfl:=yb K;clear I hR;rw[if_pos (by rfl)];unfold Oper.wp;go_simp;exact⟨upd f 2 u7,by simp[upd],r8_val (Z xu) 2 _ (by omega) (by omega) (by omega) (fun _=>rfl) (by omega)⟩
    | 3,K =>
     obtain rfl:=yb K;have g0:=hR.f0 (ye I 0 rfl);clear I hR;rw[if_pos (by rfl)];unfold Oper.wp;go_simp;exact⟨upd f 3 u0,by simp[upd,g0],r8_val (Z xu) 3 _ (by omega) (by omega) (by omega) (by omega) (fun _=>rfl)⟩
    | 4,K =>
     obtain rfl:=yb K;have g1:=hR.f1 (ye I 1 rfl);have eV:=hR.s0 xJ;subst eV;have ub:=Z jE;obtain⟨y0,z0,q0⟩:=zi ub (j:=0) (by omega);obtain⟨y1,z1,q1⟩:=zi ub (j:=1) (by omega);obtain⟨y2,z2,q2⟩:=zi ub (j:=2) (by omega);obtain⟨y3,z3,q3⟩:=zi ub (j:=3) (by omega);obtain⟨y4,z4,q4⟩:=zi ub (j:=4) (by omega);obtain⟨y5,z5,q5⟩:=zi ub (j:=5) (by omega);have n5':=n5 (by omega);clear I hR ub;rw[if_pos (by rfl)];unfold Oper.wp;go_simp;have bR:=r8_4 (Z xu) xJ n5'
     conv at bR=>arg 9;rw[Z HV1]
     exact⟨f,by simp[g1],bR⟩
    | 5,K =>
     obtain rfl:=yb K;have g2:=hR.f2 (ye I 2 rfl);have k4:x[4]? = some true:=I ⟨4,.chain⟩ (by simp) rfl;have eV:=hR.s1 k4 xJ;subst eV;have HR5:=r8_5 (Z xu) k4 xJ;clear I hR;rw[if_pos (by rfl)];unfold Oper.wp;go_simp;exact⟨upd f 5 u7,by simp[upd,g2],HR5⟩
    | i'+6,K=>simp at K
  ·have h0:0<left:=by simp only at bC;omega
   obtain⟨k2,_,oC,hmi2,hme2⟩:=mi_step hmi h0 bB (by rw[<- cross_meet (Z HP),<- Z ps];exact bx);obtain rfl:i=k2:=rise_id hmi.good.rise kO oC rfl;have K:=hmi.good.left o (yO kO);have HMI2:=Q hmi2;have HIO:=Q kO;clear hmi2 hmi bB bx bC oC kO;have hii:(0:Int)<=i:=by omega
   refine lX fun ho xV=>?_;go_wp2_with fail;refine Z xV _ _ ?_;clear xV;refine lX fun ho xV=>?_;refine wp_block ?_;refine lX fun K2 aA=>?_;have hsf:=sfl;go_wp2_with fail;refine Z aA _ _ ?_;clear aA;have kV:=lT wr (Obj.cells #[H 0,H 0,H 0,H 0,H 0,H 0,H 0,yj 0,yk ⟨#[]⟩,H 0,H 0,H 0,H 0,H 0] 89);have hsY:=zh wr (Obj.cells #[H 0,H 0,H 0,H 0,H 0,H 0,H 0,yj 0,yk ⟨#[]⟩,H 0,H 0,H 0,H 0,H 0] 89);have am:=Q (zd (Z am) kV (by omega));have HT0:=Q (zl (Z HT0) kV (by omega));have jE:=Q (zl (Z jE) kV (by omega));have HER2:=Q (fc (Z pC) kV);have HEB:Hid (∀g,u7.ownBlock=some g->w.heap.size+1+1<=g/\g<wr.heap.size):=fun g M=>(Z pC).lt g M;have uU:=Q (zq (Z uU) kV ya);have jF:=Q (zT wr [H 0,H 0,H 0,H 0,H 0,H 0,H 0,yj 0,yk ⟨#[]⟩,H 0,H 0,H 0,H 0,H 0] 89);have vT:=Q (lW (Z vT) kV);clear kV pC bN;have jF:Hid (World.there (wr.alloc (Obj.cells #[H 0,H 0,H 0,H 0,H 0,H 0,H 0,yj 0,yk ⟨#[]⟩,H 0,H 0,H 0,H 0,H 0] 89)) wr.heap.size 0 14):=Z jF;generalize wr.alloc (Obj.cells #[H 0,H 0,H 0,H 0,H 0,H 0,H 0,yj 0,yk ⟨#[]⟩,H 0,H 0,H 0,H 0,H 0] 89)=zb at am HT0 jE HER2 uU jF vT hsY |-;generalize wr.heap.size=h2 at HEB jF hsY uX |-;obtain⟨c0,c1,c2,c3,c4,c5⟩:=yC (Z am);refine lX fun K2 aA=>?_;go_wp2_with fail;refine(l04Hit_any _ l' ⟨next,cs,tt,left,cl,cg⟩ o i zb (Z uU) (by omega) (Z HIO) oS hl1 (by omega) K.2).mono ?_;rintro e w2 ⟨v2,rfl,jf,xE⟩;simp only[Od.vs,Ev.vs,trE,zCm];simp only at jf;have hq0':0<=min left o.left:=by omega
   generalize min left o.left=q at jf HMI2 hme2 hq0' |-;have pQ:=Q jf;have xq:=Q xE;have hTa:=zl (Z HT0) xE (by omega);have bu:=zl (Z jF) xE (by omega);have cT:=Q hTa;have HTB:=Q bu;have HT1':=Q (zl (Z jE) xE (by omega));have HER3:=Q (fc (Z HER2) xE);have oa:=Q (lW (Z vT) xE);have uc:=xE.size;obtain⟨ya0,za0,qa0⟩:=zi hTa (j:=0) (by omega);obtain⟨ya1,za1,qa1⟩:=zi hTa (j:=1) (by omega);obtain⟨ya2,za2,qa2⟩:=zi hTa (j:=2) (by omega);obtain⟨ya3,za3,qa3⟩:=zi hTa (j:=3) (by omega);obtain⟨ya4,za4,qa4⟩:=zi hTa (j:=4) (by omega);obtain⟨ya5,za5,qa5⟩:=zi hTa (j:=5) (by omega);obtain⟨yb0,zb0,qb0⟩:=zi bu (j:=0) (by omega);obtain⟨yb1,zb1,qb1⟩:=zi bu (j:=1) (by omega);obtain⟨yb2,zb2,qb2⟩:=zi bu (j:=2) (by omega);obtain⟨yb3,zb3,qb3⟩:=zi bu (j:=3) (by omega);obtain⟨yb4,zb4,qb4⟩:=zi bu (j:=4) (by omega);obtain⟨yb5,zb5,qb5⟩:=zi bu (j:=5) (by omega);obtain⟨yb6,zb6,qb6⟩:=zi bu (j:=6) (by omega);obtain⟨yb7,zb7,qb7⟩:=zi bu (j:=7) (by omega);obtain⟨yb8,zb8,qb8⟩:=zi bu (j:=8) (by omega);obtain⟨yb9,zb9,qb9⟩:=zi bu (j:=9) (by omega);obtain⟨yb10,zb10,qb10⟩:=zi bu (j:=10) (by omega);obtain⟨yb11,zb11,qb11⟩:=zi bu (j:=11) (by omega);obtain⟨yb12,zb12,qb12⟩:=zi bu (j:=12) (by omega);obtain⟨yb13,zb13,qb13⟩:=zi bu (j:=13) (by omega);have hES:h2≠w.heap.size:=by omega
   have hSE:w.heap.size≠h2:=by omega
   clear c0 c1 c2 c3 c4 c5 jf xE hTa bu HT0 jF jE HER2 vT uU am;go_wp2_with fail;refine Z aA _ _ ?_;clear aA za0 qa0 za1 qa1 za2 qa2 za3 qa3 za4 qa4 za5 qa5 zb0 qb0 zb1 qb1 zb2 qb2 zb3 qb3 zb4 qb4 zb5 qb5 zb6 qb6 zb7 qb7 zb8 qb8 zb9 qb9 zb10 qb10 zb11 qb11 zb12 qb12 zb13 qb13;have eW:((((((((((((((((((((w2.setCell (U w.heap.size 0) (H next)).setCell (U w.heap.size 1) (H cs)).setCell (U w.heap.size 2) (H tt)).setCell (U w.heap.size 3) (H (left-q))).setCell (U w.heap.size 4) (H cl)).setCell (U w.heap.size 5) (yk cg)).setCell (U h2 0) (H 3)).setCell (U h2 1) (H 0)).setCell (U h2 2) (H 0)).setCell (U h2 3) (H 0)).setCell (U h2 4) (H 0)).setCell (U h2 5) (H 0)).setCell (U h2 6) (H 0)).setCell (U h2 7) (yj 0)).setCell (U h2 8) (yk ⟨#[]⟩)).setCell (U h2 9) (H next)).setCell (U h2 10) (H o.id)).setCell (U h2 11) (H q)).setCell (U h2 12) (H o.ticks)).setCell (U h2 13) (H 0))=(w2.setCells w.heap.size 0 [H next,H cs,H tt,H (left-q),H cl,yk cg]).setCells h2 0 [H 3,H 0,H 0,H 0,H 0,H 0,H 0,yj 0,yk ⟨#[]⟩,H next,H o.id,H q,H o.ticks,H 0]:=rfl;rw[eW];clear eW;obtain⟨V1,oj⟩:∃V:World,V=w2.setCells w.heap.size 0 [H next,H cs,H tt,H (left-q),H cl,yk cg]:=⟨_,rfl⟩;rw[<- oj];have vW:Hid (V1.rangeAt w.heap.size 0 [H next,H cs,H tt,H (left-q),H cl,yk cg]):=by rw[oj];exact yX w2 _ 0 _ (fun j hj=>Z cT j hj)
   have pm:Hid (V1.there w.heap.size 0 6):=by rw[oj];exact xb (Z cT) _ _ _
   have ua:Hid (V1.there (w.heap.size+1) 0 6):=by rw[oj];exact xb (Z HT1') _ _ _
   have uD:Hid (V1.there h2 0 14):=by rw[oj];exact xb (Z HTB) _ _ _
   have pp:Hid (ORow V1 zb.heap.size v2 (dL l' i o q)):=by rw[oj];exact ir (by omega) _ _ _ (Z pQ)
   have HE1:Hid (ERow V1 (w.heap.size+1+1) u7 ts):=by rw[oj];exact ld (fun e=>by have:=(Z HEB _ e.symm).1;omega) _ _ _ (Z HER3)
   have ud:Hid (yn w V1):=by rw[oj];exact zg _ ya _ _ _ (Z oa)
   have xI:V1.heap.size=w2.heap.size:=by rw[oj,fH]
   clear oj;obtain⟨V2,pW⟩:∃V:World,V=V1.setCells h2 0 [H 3,H 0,H 0,H 0,H 0,H 0,H 0,yj 0,yk ⟨#[]⟩,H next,H o.id,H q,H o.ticks,H 0]:=⟨_,rfl⟩;rw[<- pW];have vM:Hid (V2.rangeAt h2 0 [H 3,H 0,H 0,H 0,H 0,H 0,H 0,yj 0,yk ⟨#[]⟩,H next,H o.id,H q,H o.ticks,H 0]):=by rw[pW];exact yX V1 _ 0 _ (fun j hj=>Z uD j hj)
   have ji:Hid (V2.rangeAt w.heap.size 0 [H next,H cs,H tt,H (left-q),H cl,yk cg]):=by rw[pW];exact ly (Z vW) (by omega)
   have uP:Hid (V2.there w.heap.size 0 6):=by rw[pW];exact xb (Z pm) _ _ _
   have uQ:Hid (V2.there (w.heap.size+1) 0 6):=by rw[pW];exact xb (Z ua) _ _ _
   have bd:Hid (ORow V2 zb.heap.size v2 (dL l' i o q)):=by rw[pW];exact ir (by omega) _ _ _ (Z pp)
   have HE2:Hid (ERow V2 (w.heap.size+1+1) u7 ts):=by rw[pW];exact ld (fun e=>by have:=(Z HEB _ e.symm).2;omega) _ _ _ (Z HE1)
   have xK:Hid (yn w V2):=by rw[pW];exact zg _ (by omega) _ _ _ (Z ud)
   have hs4:zb.heap.size<=V2.heap.size:=by rw[pW,fH,xI];exact uc
   clear pW vW pm ua uD pp HE1 ud xI pQ xq cT HTB HT1' HER3 oa;obtain⟨e0,e1,e2,e3,e4,e5,e6,e7,e8,e9,uL,uG,vJ,vu⟩:=yF (Z vM);have HE3:=Q ((Z HE2).alloc (Obj.cells #[H 3,H 0,H 0,H 0,H 0,H 0,H 0,yj 0,yk ⟨#[]⟩,H next,H o.id,H q,H o.ticks,H 0] 89));have hs5:V2.heap.size+1<=(V2.alloc (Obj.cells #[H 3,H 0,H 0,H 0,H 0,H 0,H 0,yj 0,yk ⟨#[]⟩,H next,H o.id,H q,H o.ticks,H 0] 89)).heap.size:=Nat.le_of_eq (zh _ _).symm;have xX:=lT V2 (Obj.cells #[H 3,H 0,H 0,H 0,H 0,H 0,H 0,yj 0,yk ⟨#[]⟩,H next,H o.id,H q,H o.ticks,H 0] 89);have uA:Hid (∀j u,[H 3,H 0,H 0,H 0,H 0,H 0,H 0,yj 0,yk ⟨#[]⟩,H next,H o.id,H q,H o.ticks,H 0][j]? = some u->(V2.alloc (Obj.cells #[H 3,H 0,H 0,H 0,H 0,H 0,H 0,yj 0,yk ⟨#[]⟩,H next,H o.id,H q,H o.ticks,H 0] 89)).cell? (((U V2.heap.size 0):Addr).add j)=some u):=fun j u hu=>cellsQ V2 [H 3,H 0,H 0,H 0,H 0,H 0,H 0,yj 0,yk ⟨#[]⟩,H next,H o.id,H q,H o.ticks,H 0] 89 j u hu;have cQ:=Q (zK (Z bd) xX);have bQ:=Q (zd (Z ji) xX (by omega));have vj:=Q (zl (Z uP) xX (by omega));have qY:=Q (zl (Z uQ) xX (by omega));have uT:=Q (lW (Z xK) xX);have HEBv:Hid (∀g,u7.ownBlock=some g->w.heap.size+1+1<=g):=fun g M=>(Z HEB g M).1;clear xX bd ji uP uQ xK HEB;go_wp2_with (at_builtin;go_must (refine wpList_append_own _ rfl _ _ 87 rfl (w.heap.size+1+1) 89 i0 _ 14 120 Tryz.underlying87 vA uE uw uC rfl (by decide) u7 ts.length (ts.flatMap Ev.vs) rfl (Z HE3) (U V2.heap.size 0) 1 1 [H 3,H 0,H 0,H 0,H 0,H 0,H 0,yj 0,yk ⟨#[]⟩,H next,H o.id,H q,H o.ticks,H 0] rfl rfl (Z uA) (by simp[Value.oneCell']) (by unfold maxLen;omega) (by omega) (by omega) ?_);intro v5 w5 qC kN _;have HO5:=Q qC;have uQ:=Q kN;clear qC kN)
   have pE:=Q ((Z cQ).kept (Z uQ) (gF (Z cQ) (Z HE3) (by decide)));have HNS:Hid (∀b,b<w.heap.size+1+1->some b≠u7.ownBlock):=fun b A e=>by have:=Z HEBv b e.symm;omega
   have bS:=Q (zA (Z bQ) (Z uQ) (by omega) (Z HNS _ (by omega)));have HT5:=Q (iT (Z vj) (Z uQ) (by omega) (Z HNS _ (by omega)));have ky:=Q (iT (Z qY) (Z uQ) (by omega) (Z HNS _ (by omega)));have kh:=Q ((Z uT).grown (Z uQ) (Z uT).size (fun k X=>by have:=Z HEBv k X;omega));have cH:=(Z uQ).size
   have oY:Hid (ERow w5 (w.heap.size+1+1) v5 (ts ++ [trE next o.id q o.ticks])):=by
    show w5.ownsRow _ _ _ _ (ts ++ [trE next o.id q o.ticks]).length _;rw[yP,List.flatMap_append];have:=Z HO5;simpa[Ev.vs,trE,zCm] using this
   obtain⟨x0,x1,x2,x3,x4,x5⟩:=yC (Z bS)
   try simp only[Exit.inBlock,Exit.then]
   refine Z xV _ _ ?_;clear xV HE3 uA cQ bQ vj qY uT uQ HO5 e0 e1 e2 e3 e4 e5 e6 e7 e8 e9 uL uG vJ vu;have qZ:=(Z HMI2).good;have oo:=qZ.len;go_wp2_with fail;refine(lG v2 (dL l' i o q) ⟨next,cs,tt,left-q,cl,cg⟩ w5 (zP (Z pE) (by omega)) qZ.rise (by omega) (Z HS)).mono ?_;rintro e w6 ⟨k6,rfl,hnx6,vN⟩
   have HN:Hid (MaI ⟨ck,cs,ct,cl,cq,ci,cp,cg⟩ next w (.slice a l.length cap) l tt yl (2*(dL l' i o q).length+(if 0<left-q then 1 else 0)) v2 v5 (H k6) w6):=
    ⟨dL l' i o q,left-q,ts ++ [trE next o.id q o.ticks],k6,rfl,.inr (ex (zK (Z pE) vN) (by omega)),fc (Z oY) vN,hnx6,Z HMI2,zd (Z bS) vN (by omega),zl (Z HT5) vN (by omega),zl (Z ky) vN (by omega),(Z kh).trans (vN.mono (Z kh).size),by have:=vN.size;omega,Nat.le_refl _⟩
   clear hnx6 vN;go_wp2_with fail
   go_roundg (2*(dL l' i o q).length+(if 0<left-q then 1 else 0))
   case measure=>rw[if_pos h0] at hme;omega
   case rel=>exact Z HN
end Go.Proofs.YtbghmldggahjiaaGreatDoor
