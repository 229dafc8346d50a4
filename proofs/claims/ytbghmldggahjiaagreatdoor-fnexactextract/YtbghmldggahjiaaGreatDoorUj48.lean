/-.-/
import Derived.Test.YtbghmldggahjiaaGreatDoorUj47
set_option linter.unusedVariables false
set_option maxHeartbeats 6400000
set_option maxRecDepth 100000
namespace Go.Proofs.YtbghmldggahjiaaGreatDoor
open Go.RowKit
theorem mgroup_any {w:World}{hg:Nat}{a:Option Addr}{c:Nat}{l:List Int}{k0 s:Int}{cs:List Cm}{T0:Tot}{vq vt:Value}(n t:Nat)(W:World)(h:MJ w hg (.slice a l.length c) k0 s 0 0 cs T0 vq vt W)(bz:cs.length<200)(hr:Rd w (.slice a l.length c) l)(xC:l.length<=c)(A:Bts l)(hl:l.length<=65536)(hn:n<=t)(ht:t+2<=l.length) :
  Calls Tryz.prog 54 #[xj hg 0,H n,H t] W fun e w'=>MgE w hg (.slice a l.length c) k0 s cs T0 n (grpJ ((l.drop n).take (t-n)) cs) e w':=by
 have hsf:=sfl;obtain⟨i0,hi,uE,uw,uC⟩:=info_parts infoCJ;have jK:=(gR cs (by omega));have hgi:GI (gr0 (runS cs).n (runS cs).l):=gi_start jK.1.good (by omega) (by omega) jK.1.side jK.1.ids;have qZ:=jK.1.good.len;have uJ:((l.drop n).take (t-n)).length=t-n:=by rw[List.length_take,List.length_drop];omega
 have ud:=Q (fun k r h=>grpJ_bad (p:=(l.drop n).take (t-n)) (cs:=cs) (k:=k) (r:=r) h);have xq:=Q (fun g es h he=>grpJ_short (p:=(l.drop n).take (t-n)) (cs:=cs) (g:=g) (es:=es) h he);have xZ:=Q (fun g es h he=>grpJ_ok (p:=(l.drop n).take (t-n)) (cs:=cs) (g:=g) (es:=es) (by omega) h he)
 have HDC:Hid (∀V q,yn w V->n<=q->q<=t->Calls Tryz.prog 82 #[.slice a t c,H q] V fun e w'=>e=ym (evT ((evA ((l.drop n).take (t-n)) (q-n)).map fun x=>(x.1,n+x.2)))/\yn V w'):=fun V q hV D E=>by
  have hrt:Rd w (.slice a t c) (l.take t):=by
   obtain⟨a',c',e,hlm,hc⟩:=hr;simp only[Value.slice.injEq,true_and] at e;obtain⟨rfl,rfl⟩:=e;refine⟨a,c,by rw[List.length_take,Nat.min_eq_left (by omega)],by rw[List.length_take];omega,fun xy=>?_⟩;obtain⟨b,off,e2,xm⟩:=hc (fun e=>by rw[e] at xy;simp at xy);refine⟨b,off,e2,fun i hi=>?_⟩;rw[List.length_take] at hi;rw[xm i (by omega)];simp[List.getD,show i<t by omega]
  have:=decode_any (.slice a t c) (l.take t) q V (zN hrt hV ya) (fun a' n' c' e=>by cases e;omega) (fun x hx=>A x (List.mem_of_mem_take hx)) (by rw[List.length_take];omega) (by rw[List.length_take];omega);rw[show q=n+(q-n) by omega,evA_pay hn (by omega)] at this;rwa[show n+(q-n)=q by omega] at this
 generalize hGR:grpJ ((l.drop n).take (t-n)) cs=GR at ud xq xZ |-;generalize (l.drop n).take (t-n)=p at uJ ud xq xZ HDC hGR;clear hGR;have uH:Hid (MgE w hg (.slice a l.length c) k0 s cs T0 n GR=MgE w hg (.slice a l.length c) k0 s cs T0 n GR):=rfl;have HM:=Q h;have HGI:=Q hgi;have HRQ:=Q (zP h.row (by omega));have jS:=Q (oRow_sl h.row);have m5:=Y h.mb.box 5 rfl;have m6:=Y h.mb.box 6 rfl;have jn:(0:Int)<=t:=by omega
 have qV:(t:Int)<=c:=by omega
 clear hr A hgi jK h uH;go_enter Tryz.func54,Tryz.ntmps54;go_wp2_with fail;refine(l05Begin_any (runS cs).n vq (runS cs).l W (Z HRQ) (Z jS) (by omega)).mono ?_;rintro e w1 ⟨O,vl,rfl,hms,xR⟩
 have HGP:Hid (MGp w hg O W.heap.size (.slice a l.length c) k0 s cs vq vl (.slice none 0 0) vt (gr0 (runS cs).n (runS cs).l) zOd 0 [] cs T0 w1):=by
  have hj:=gL (Z HM) xR;exact⟨hj.mb,hj.row,hj.told,hms,Z HGI,mr_start _ _,fun b A=>((Z HM).row.lt b A).2,(Z HM).mb.bel.size⟩
 have HAL0:Hid (Al (wgT (runS cs).t []) T0):=by have:=(Z HM).al;exact⟨this.ac,this.rf,this.tr,this.vo,this.no⟩
 clear hms xR m5 m6 HRQ jS HGI HM;generalize W.heap.size=B1 at HGP;go_wp2_with fail;go_loopw [7] (fun av wr=>∃(q:Nat) (g:Gr) (es:List Ev) (vl vd vU:Value) (tk:Od) (kd:Int) (dy:List Od) (T:Tot),n<=q/\q<=t/\av=H q/\Hid (MGp w hg O B1 (.slice a l.length c) k0 s cs vq vl vd vU g tk kd dy (cs++tolds es) T wr)/\Hid (Al (wgT (runS cs).t es) T)/\Hid (T.gr=T0.gr)/\Hid ((es = []->g.bg=0)/\(es ≠ []->g.bg≠0))/\Hid (evsK p (q-n) g es=evsK p 0 (gr0 (runS cs).n (runS cs).l) [])) (fun av _=>t-(intOf av).toNat)
 case atStart=>exact⟨n,_,[],vl,_,vt,zOd,0,[],T0,Nat.le_refl _,hn,rfl,(by simpa[tolds] using HGP),HAL0,rfl,⟨fun _=>rfl,fun h=>absurd rfl h⟩,(by show _ = _;rw[Nat.sub_self])⟩
 case round =>
  obtain⟨q,g,es,vl,vd,vU,tk,kd,dy,T,aS,hq2,rfl,HG,HAL,qm,oX,qX⟩:=hrel;clear HGP HAL0;have y0:=Y (Z HG).mb.box 0 rfl
  by_cases xH:q<t
  ·have uq:(q:Int)<t:=by omega
   have hkp:q-n<p.length:=by omega
   have HNO:=Q (fun h=>Z ud _ _ ((Z qX).symm.trans (evsK_none (g:=g) (es:=es) hkp h)));have uk:=Q (fun e m D E=>Z ud _ _ ((Z qX).symm.trans (evsK_bad (g:=g) (es:=es) (e:=e) (n:=m) hkp D E)));have HGO:=Q (fun e m D E=>(evsK_go (g:=g) (es:=es) (e:=e) (n:=m) hkp D E).symm.trans (Z qX));have HLE:=Q (fun e m h=>evA_le (l:=p) (k:=q-n) (n:=m) (e:=e) h);have jc:=Q (fun e m h=>evA_ok (l:=p) (k:=q-n) (n:=m) (e:=e) h);have HD:=Q (Z HDC wr q (Z HG).mb.bel aS hq2);generalize evA p (q-n)=EA at HNO uk HGO HLE jc HD;clear qX;cases EA with
   | none =>
    have HF:=Q (Z HNO rfl);clear HNO uk HGO HLE jc;simp only[Option.map_none,evT,evV,zEv] at HD;go_wp2_with fail;refine(Z HD).mono ?_;rintro e w2 ⟨rfl,xE⟩;have xq:=Q xE;have kE:=Q (iE (Z HG).mb (xE.trans (((Below.refl w2.heap.size w2).alloc ya (J (yv 0 0 0 0 0 0 0 0 ⟨#[]⟩ 0 0 0 0 0).toArray 89)).mono xE.size)));clear xE HD;go_wp2_with fail;refine(gI 2 q _ (Z kE)).mono ?_;rintro e w3 ⟨rfl,hm3⟩;have ox:=Q hm3;clear hm3;go_wp2_with fail
    try simp only[Exit.inBlock,Exit.then]
    refine bodyPost_ret (results_none rfl _ _ _) rfl ?_;exact mgE_bad (Z HF) (by omega) (Z ox)
   | some x =>
    obtain⟨ev,m⟩:=x;have uB:=Z HLE ev m rfl;obtain⟨ql,htg⟩:=Z jc ev m rfl;have qE:=fx ql;have vV:=Q (fun E=>Z uk ev m rfl E);have HGX:=Q (fun E=>Z HGO ev m rfl E);have HBR:=Q (fun V hV=>broken_any (O:=O) (B:=B1) (vl:=vl) (vd:=vd) (va:=vq) (g:=g) (t:=tk) (kd:=kd) (n0:=(runS cs).n) (dy:=dy) (l0:=(runS cs).l) ev V hV (Z HG).gi (Z HG).mr qE (by unfold maxLen;omega));have uV:=Q (fun h0 V hV=>take_kp (O:=O) (B:=B1) (vl:=vl) (vd:=vd) (va:=vq) (g:=g) (t:=tk) (kd:=kd) (n0:=(runS cs).n) (dy:=dy) (l0:=(runS cs).l) ev V hV (Z HG).gi (Z HG).mr ql h0);have cO:Hid (zx g ev=0->GI (dK g ev)/\MR (dK g ev) (tkM g tk ev) (kdM kd ev) (dyM g dy ev)):=fun h=>⟨gi_step (Z HG).gi ql h,mr_step (Z HG).gi (Z HG).mr ql h⟩;have HSB:Hid ((dK g ev).bg≠0):=stepM_bg qE;have HCM:=Q (fun V=>ip ev V qE);have jE:=Q (tolds_one es ev);have HCT:=Q (fun V=>l04Count_any T ev V);have HAL2:Hid (Al (wgT (runS cs).t (es ++ [ev])) (cntM T ev)):=by have:=al_cnt ev (Z HAL);rw[<- wgT_snoc] at this;exact this
    have HGR2:Hid ((cntM T ev).gr=T0.gr):=(cntM_gr1 T ev).trans (Z qm);clear HNO uk HGO HLE jc HAL qm ql htg qE;unfold TakK at uV;generalize zx g ev=ru at HBR uV vV HGX cO;generalize dK g ev=g2 at uV HGX cO HSB;generalize tkM g tk ev=t2 at uV cO;generalize kdM kd ev=kd2 at uV cO;generalize dyM g dy ev=dy2 at uV cO;generalize zV ev=tc at HCM jE;generalize cntM T ev=T2 at HCT HAL2 HGR2;generalize zR ev.kind=sb at HCM;generalize es ++ [ev]=es2 at HGX jE HAL2;obtain⟨xl,⟨ck,aG,ct,cl,cq,ci,cp,cg⟩,id,xh,qty,xi,xg⟩:=ev;obtain⟨pz,ts,tt,tl,tq,ti,tp,tg⟩:=tc;simp only[Option.map_some,evT,evV] at HD;unfold evV at HBR uV HCM;unfold cmV at HCM;simp only at HBR uV HCM HCT;go_wp2_with fail;refine(Z HD).mono ?_;rintro e w2 ⟨rfl,xE⟩;have js:=xE.trans (((Below.refl w2.heap.size w2).alloc ya (J (yv xl ck aG ct cl cq ci cp cg id xh qty xi xg).toArray 89)).mono xE.size);have uD:=Q (hP (Z HG) js);have uz:=Q (zj w2 (yv xl ck aG ct cl cq ci cp cg id xh qty xi xg) 89);have jT:Hid (∃xr,(w2.alloc (J (yv xl ck aG ct cl cq ci cp cg id xh qty xi xg).toArray 89)).heap[w2.heap.size]? = some (.cells xr 89 (0,0))):=⟨_,heap_alloc_new _ _⟩;clear xE js HD HG y0;go_wp2_with fail;generalize (w2.alloc (J (yv xl ck aG ct cl cq ci cp cg id xh qty xi xg).toArray 89))=W3 at uD uz jT |-;generalize w2.heap.size=E0 at uz jT |-;obtain⟨e0,e1,e2,e3,e4,e5,e6,e7,e8,e9,uL,uG,vJ,vu⟩:=yy (Z uz);go_wp2_with fail;refine(Z HBR W3 (Z uD).ms).mono ?_;rintro e w4 ⟨rfl,xz⟩;have uP:=Q (hP (Z uD) xz);have bU:=Q (iD (Z jT) xz);have xw:=Q (zf (Z uz) xz (typ_lt (Z jT)));clear xz uD jT uz HBR e0 e1 e2 e3 e4 e5 e6 e7 e8 e9 uL uG vJ vu
    by_cases hru:ru=0
    case neg =>
     have pu:(ru != 0)=true:=by simpa using hru
     have HF:=Q (Z vV hru);clear hru;go_wp2_with fail;refine(gI ru q _ (Z uP).mb).mono ?_;rintro e w5 ⟨rfl,qR⟩;have un:=Q qR;clear qR;go_wp2_with fail
     try simp only[Exit.inBlock,Exit.then]
     refine bodyPost_ret (results_none rfl _ _ _) rfl ?_;exact mgE_bad (Z HF) (by omega) (Z un)
    have pu:(ru != 0)=false:=by simpa using hru
    have HTK2:=Q (fun V hV=>Z uV hru V hV);have HGN2:=Q (Z cO hru);have HEV2:=Q (Z HGX hru);clear hru uV cO HGX vV;have o9:=Y (Z uP).ms.box 9 rfl
    by_cases dv:es = []
    rotate_left;have aK:(g.bg != 0)=true:=by simpa using(Z oX).2 dv
    have ue:Hid (tolds es2=tolds es):=by show _ = _;rw[Z jE,if_neg dv]
    have HNE:Hid (es2 ≠ []):=fun e=>by have E:=Z ue;rw[e] at E;cases es with|nil=>exact dv rfl|cons a r=>cases E
    rw[aK] at o9;have qY:=uP;have HT7:=bU;have pG:=xw;rw[<- Z ue] at qY;clear aK dv jE oX uP bU xw ue HCM;generalize w4=W7 at qY HT7 pG o9 |-;rotate_left
    focus
     have aK:(g.bg != 0)=false:=by simpa using(Z oX).1 dv
     have ue:Hid (tolds es2 = [⟨pz,ts,tt,tl,tq,ti,tp,tg⟩]/\tolds es = []):=⟨by rw[Z jE,if_pos dv],by rw[dv];rfl⟩;have HNE:Hid (es2 ≠ []):=fun e=>by have:=(Z ue).1;rw[e] at this;cases this
     rw[aK] at o9;clear aK dv jE oX;obtain⟨e0,e1,e2,e3,e4,e5,e6,e7,e8,e9,uL,uG,vJ,vu⟩:=yy (Z xw);go_wp2_with fail;refine(Z HCM w4).mono ?_;rintro e w5 ⟨rfl,xX⟩;have hb56:=xX.trans (((Below.refl w5.heap.size w5).alloc ya (J (yx pz ts tt tl tq ti tp tg).toArray 57)).mono xX.size);have vj:=Q (hP (Z uP) hb56);have ky:=Q (iD (Z bU) hb56);have vE:=Q (zf (Z xw) hb56 (typ_lt (Z bU)));have ph:=Q (zj w5 (yx pz ts tt tl tq ti tp tg) 57);clear xX hb56 uP bU xw HCM o9 e0 e1 e2 e3 e4 e5 e6 e7 e8 e9 uL uG vJ vu;go_wp2_with fail;generalize (w5.alloc (J (yx pz ts tt tl tq ti tp tg).toArray 57))=W6 at vj ky vE ph |-;generalize w5.heap.size=C0 at ph |-;rw[(Z ue).2,List.append_nil] at vj;have hj15:=Y (Z vj).mb.box 15 rfl;have hf15:=zc (Z vj).mb.box 15 (by show 15<18;decide);have hneM:some hg≠vU.ownBlock:=zy (Z vj).told (Z vj).mb.typ (by decide);have hneE:some E0≠vU.ownBlock:=zy (Z vj).told (Z ky) (by decide);have hM6:=(Z vj).mb.lt;have hE6:=typ_lt (Z ky);have hw6:=(Z vj).mb.bel.size;obtain⟨m0,m1,m2,m3,m4,m5,m6,m7⟩:=yz (Z ph);rename_i ho hK;have HK:=Q hK;clear hK;refine(fun(HT:Hid (∀(gb cap:Nat) (W7:World),MGp w hg O B1 (.slice a l.length c) k0 s cs vq vl vd (.slice (some (U gb 0)) (cs.length+1) cap) g tk kd dy (cs ++ [⟨pz,ts,tt,tl,tq,ti,tp,tg⟩]) T W7->(∃xr,W7.heap[E0]? = some (.cells xr 89 (0,0)))->Bx W7 E0 (yv xl ck aG ct cl cq ci cp cg id xh qty xi xg)->ho ((?A:Nat->Nat->Act) gb cap) W7))=>?main) ?ht
     case main =>
      go_region_law ((refine step_append_lies _ (by rfl) _ _ _ (by rfl) w.heap.size 57 i0 _ 8 72 Tryz.underlying31 hi uE uw uC rfl (by decide) _ cs.length (cs.flatMap Cm.vs) (by rfl) (fP (Z vj).told ((Below.refl W6.heap.size W6).alloc ya _).drew) (U W6.heap.size 0) 1 1 (Cm.vs ⟨pz,ts,tt,tl,tq,ti,tp,tg⟩) (by rfl) rfl (cellsJ rfl _ _) (one_cm _) (by decide) (by unfold maxLen;omega) (by omega) (by show w.heap.size<=(W6.alloc _).heap.size;rw[zh];omega) (W6.heap.size+1) (by simp) ?_;intro gb cap w7 hown7 hg7 hat7 hlt7;have y15:=(hg7.cell_far (U hg 15) (by show hg<(W6.alloc _).heap.size;rw[zh];omega) hneM).trans ((((Below.refl W6.heap.size W6).alloc ya _).drew.cell (p:=(U hg 15)) (by show hg < _;omega)).trans hj15);have z15:=(hg7.frozen_far (U hg 15) (by show hg<(W6.alloc _).heap.size;rw[zh];omega) hneM).trans ((World.frozen?_of_block (a:=(U hg 15)) (((Below.refl W6.heap.size W6).alloc ya _).drew.block hg (by omega))).trans hf15)))
      all_goals
       have hkp7:Kp hg vU W6 w7:=kp_kp (eL ((Below.refl W6.heap.size W6).alloc ya (J (yx pz ts tt tl tq ti tp tg).toArray 57)).drew) ⟨hg7.os,hg7.tape,hg7.output,hg7.size,fun k X _ E=>hg7.block k X E⟩;have hkp:Kp hg vU W6 (w7.setCell (U hg 15) (.slice (some (U gb 0)) (cs.length+1) cap)):=kp_set hkp7 _ _;have hbM:w7.heap[hg]? = W6.heap[hg]?:=(hg7.block hg (by show hg<(W6.alloc _).heap.size;rw[zh];omega) hneM).trans (((Below.refl W6.heap.size W6).alloc ya _).drew.block hg hM6)
       have pf:(w7.setCell (U hg 15) (.slice (some (U gb 0)) (cs.length+1) cap)).heap[E0]? = W6.heap[E0]?:=hkp.block E0 hE6 (fun e=>by
        obtain⟨cu1,hu1⟩:=(Z vj).mb.typ;obtain⟨cu2,hu2⟩:=Z ky;rw[e,hu1] at hu2;simp only[Option.some.injEq,Obj.cells.injEq] at hu2;exact absurd hu2.2.1 (by decide)) hneE
       have hbel7:yn w w7:=⟨hkp7.os.trans (Z vj).mb.bel.os,hkp7.tape.trans (Z vj).mb.bel.tape,hkp7.output.trans (Z vj).mb.bel.output,yN hw6 hkp7.size,fun k X=>(hkp7.block k (by omega) (by have:=(Z vj).mb.hM;omega) (fun e=>by have:=((Z vj).told.lt k e.symm).1;omega)).trans ((Z vj).mb.bel.block k X)⟩;have hmb7:=mb_blk (Z vj).mb hbM hbel7;refine Z HT gb cap _ (mgp_kp (Z vj) hkp (ig hmb7 15 [.slice (some (U gb 0)) (cs.length+1) cap] (Nat.le_of_ble_eq_true rfl)) ?_) ?_ (zQ (Z vE) pf)
       ·simpa using dT hown7 (zy hown7 hmb7.typ (by decide)) 15 _
       ·obtain⟨cu2,hu2⟩:=Z ky;exact⟨cu2,pf.trans hu2⟩
     intro gb cap W7 hg7 ht7 hx7;have qY:=Q hg7;have HT7:=Q ht7;have pG:=Q hx7;refine Z HK _ _ ?_;rw[<- (Z ue).1] at qY;generalize (.slice (some (U gb 0)) (cs.length+1) cap:Value)=vt7 at qY |-;clear HK hg7 ht7 hx7 vj ky vE ph ue hj15 hf15 hneM hneE hM6 hE6 hw6 m0 m1 m2 m3 m4 m5 m6 m7
    all_goals
     obtain⟨e0,e1,e2,e3,e4,e5,e6,e7,e8,e9,uL,uG,vJ,vu⟩:=yy (Z pG);go_wp2_with fail;refine(Z HTK2 W7 (Z qY).ms).mono ?_;rintro e w8 ⟨rfl,hk8,vl2,vd2,hm8⟩
     have hbe8:w8.heap[E0]? = W7.heap[E0]?:=hk8.block E0 (typ_lt (Z HT7)) (fun e=>by
      obtain⟨cu1,hu1⟩:=(Z qY).ms.typ;obtain⟨cu2,hu2⟩:=Z HT7;rw[e,hu1] at hu2;simp only[Option.some.injEq,Obj.cells.injEq] at hu2;exact absurd hu2.2.1 (by decide)) (zy (Z qY).ms.row (Z HT7) (by decide))
     have kT:=Q (hP (mgp_take (Z qY) hk8 hm8 (Z HGN2).1 (Z HGN2).2) (Below.refl w8.heap.size w8).drew);have bh:Hid (Bx w8.drew E0 (yv xl ck aG ct cl cq ci cp cg id xh qty xi xg)):=zm (zQ (Z pG) hbe8);clear hk8 hm8 hbe8 HTK2 HGN2 qY HT7 pG e0 e1 e2 e3 e4 e5 e6 e7 e8 e9 uL uG vJ vu
     try clear o9
     obtain⟨e0,e1,e2,e3,e4,e5,e6,e7,e8,e9,uL,uG,vJ,vu⟩:=yy (Z bh);have z7:=Y ((Z kT).mb.box) 7 rfl;have z8:=Y ((Z kT).mb.box) 8 rfl;have z9:=Y ((Z kT).mb.box) 9 rfl;have jv:=Y ((Z kT).mb.box) 10 rfl;have jL:=Y ((Z kT).mb.box) 11 rfl;have jZ:=Y ((Z kT).mb.box) 12 rfl;have pA:=Y ((Z kT).mb.box) 13 rfl;have z14:=Y ((Z kT).mb.box) 14 rfl;have f7:=zc ((Z kT).mb.box) 7 (by show _ < 18;decide);have f8:=zc ((Z kT).mb.box) 8 (by show _ < 18;decide);have f9:=zc ((Z kT).mb.box) 9 (by show _ < 18;decide);have f10:=zc ((Z kT).mb.box) 10 (by show _ < 18;decide);have cU:=zc ((Z kT).mb.box) 11 (by show _ < 18;decide);have f12:=zc ((Z kT).mb.box) 12 (by show _ < 18;decide);have f13:=zc ((Z kT).mb.box) 13 (by show _ < 18;decide);have f14:=zc ((Z kT).mb.box) 14 (by show _ < 18;decide);have pd:hg<w8.drew.heap.size:=(Z kT).mb.lt;have hE8:E0<w8.drew.heap.size:=yK _ _ e0;go_wp2_with fail
     go_region_with (go_at_call 86;refine(Z HCT _).mono ?_;rintro e w9 ⟨rfl,hq⟩;have g7:=(hq.cell (p:=(U hg 7)) pd).trans z7;have h7:=(World.frozen?_of_block (a:=(U hg 7)) (hq.block hg pd)).trans f7;have g8:=(hq.cell (p:=(U hg 8)) pd).trans z8;have h8:=(World.frozen?_of_block (a:=(U hg 8)) (hq.block hg pd)).trans f8;have g9:=(hq.cell (p:=(U hg 9)) pd).trans z9;have h9:=(World.frozen?_of_block (a:=(U hg 9)) (hq.block hg pd)).trans f9;have oi:=(hq.cell (p:=(U hg 10)) pd).trans jv;have vv:=(World.frozen?_of_block (a:=(U hg 10)) (hq.block hg pd)).trans f10;have jU:=(hq.cell (p:=(U hg 11)) pd).trans jL;have jz:=(World.frozen?_of_block (a:=(U hg 11)) (hq.block hg pd)).trans cU;have qh:=(hq.cell (p:=(U hg 12)) pd).trans jZ;have qv:=(World.frozen?_of_block (a:=(U hg 12)) (hq.block hg pd)).trans f12;have oZ:=(hq.cell (p:=(U hg 13)) pd).trans pA;have pU:=(World.frozen?_of_block (a:=(U hg 13)) (hq.block hg pd)).trans f13;have bp:=(hq.cell (p:=(U hg 14)) pd).trans z14;have h14:=(World.frozen?_of_block (a:=(U hg 14)) (hq.block hg pd)).trans f14)
     all_goals
      have HGA:=Q (mgp_sets (T':=T2) (hP (Z kT) hq) 7 [H T2.gr,H T2.ac,H T2.rf,H T2.tr,H T2.vo,H T2.no,H T2.li,H T2.le] (Nat.le_of_ble_eq_true rfl) rfl);simp only[World.setCells] at HGA;go_wp2_with fail;go_roundw
      case rel=>exact⟨n+m,g2,es2,vl2,vd2,_,t2,kd2,dy2,T2,by omega,by omega,by go_num,HGA,HAL2,HGR2,⟨fun h=>absurd h (Z HNE),fun _=>Z HSB⟩,(by show _ = _;rw[Nat.add_sub_cancel_left];exact Z HEV2)⟩
      case measure=>simp[intOf];omega
  ·have uq:¬ ((q:Int)<t):=by omega
   obtain rfl:q=t:=by omega
   have jc:Hid (evsK p 0 (gr0 (runS cs).n (runS cs).l) [] = .ok g es):=(Z qX).symm.trans (evsK_end (by omega));have HSH:=Q (fun h=>Z xq g es (Z jc) h);have HLW:=Q (fun h=>Z xZ g es (Z jc) h);have ai:=Q (fun V hV=>mdue_any (O:=O) (B:=B1) (vl:=vl) (vd:=vd) (va:=vq) (g:=g) (t:=tk) (kd:=kd) (n0:=(runS cs).n) (dy:=dy) (l0:=(runS cs).l) V hV (Z HG).gi (Z HG).mr);have pC:Hid (endR g=if g.bg=0\/(dueG g).kind≠0 then 15 else 0):=rfl
   have o9:=Y (Z HG).ms.box 9 rfl;have hfd:=fieldDu;have hgl2:=(Z HG).gi.len
   by_cases hbz:g.bg=0
   ·have aK:(g.bg != 0)=false:=by simpa using hbz
    rw[aK] at o9;have HF:=Q (Z HSH (by rw[Z pC,if_pos (.inl hbz)];decide));clear hbz aK HSH HLW ai pC jc qX oX;go_wp2_with fail;refine(gI 15 q _ (Z HG).mb).mono ?_;rintro e w5 ⟨rfl,qR⟩;have un:=Q qR;clear qR;go_wp2_with fail
    try simp only[Exit.inBlock,Exit.then]
    refine bodyPost_ret (results_none rfl _ _ _) rfl ?_;exact mgE_bad (Z HF) (by omega) (Z un)
   have hbg1:(g.bg != 0)=true:=by simpa using hbz
   rw[hbg1] at o9;have HED:Hid ((dueG g).kind≠0->endR g≠0):=fun h=>by rw[Z pC,if_pos (.inr h)];decide
   have HEZ:Hid ((dueG g).kind=0->endR g=0):=fun h=>by rw[Z pC,if_neg (fun E=>E.elim hbz (fun h3=>h3 h))]
   unfold duV at ai;generalize dueG g=dg at ai HED HEZ;obtain⟨dk,di,dt,dq,dp⟩:=dg;simp only at ai HED HEZ;clear hbz hbg1 pC qX oX jc;go_wp2_with fail;refine(Z ai wr (Z HG).ms).mono ?_;rintro e w2 ⟨rfl,xE⟩;have ua:=Q (hP (Z HG) xE);clear xE ai HG y0 o9
   by_cases hdk:dk=0
   case neg =>
    have hdb:(dk != 0)=true:=by simpa using hdk
    have HF:=Q (Z HSH (Z HED hdk));clear hdk HSH HLW HED HEZ;go_wp2_with fail;refine(gI 15 q _ (Z ua).mb).mono ?_;rintro e w5 ⟨rfl,qR⟩;have un:=Q qR;clear qR;go_wp2_with fail
    try simp only[Exit.inBlock,Exit.then]
    refine bodyPost_ret (results_none rfl _ _ _) rfl ?_;exact mgE_bad (Z HF) (by omega) (Z un)
   have hdb:(dk != 0)=false:=by simpa using hdk
   have HW:=Q (Z HLW (Z HEZ hdk));obtain⟨la,lc,rfl⟩:=fI (Z ua).ms.row;clear hdk HSH HLW HED HEZ;go_wp2_with fail;refine(mbook_any w2 (Z ua).ms).mono ?_;rintro e w3 ⟨rfl,xN⟩;have uD:=Q (hP (Z ua) xN);clear xN ua hdb;have c5:=Y (Z uD).mb.box 5 rfl;have c6:=Y (Z uD).mb.box 6 rfl;have f5:=zc (Z uD).mb.box 5 (by show _ < 18;decide);have f6:=zc (Z uD).mb.box 6 (by show _ < 18;decide);have xw:Hid (MX w hg (mjV (.slice a l.length c) k0 s 0 0 g.nx (.slice la g.l.length lc) T vU (pkO cs) (pkL cs)) (.slice la g.l.length lc) g.l vU (cs++tolds es) (w3.setCells hg 5 [H g.nx,.slice la g.l.length lc]).drew):=mx_below (mx_sets ⟨(Z uD).mb,rowE_mono (Z uD).ms.row (Z uD).hB,(Z uD).told⟩ 5 [H g.nx,.slice la g.l.length lc] (Nat.le_of_ble_eq_true rfl)) (Below.refl _ _).drew;have hs4:w3.setCells hg 5 [H g.nx,.slice la g.l.length lc]=(w3.setCell (U hg 5) (H g.nx)).setCell (U hg 6) (.slice la g.l.length lc):=rfl;rw[hs4] at xw;have HGRT:=Q (Z qm);have HALT:=Q (Z HAL);clear hs4 uD qm HAL;have HPO:=Q (pkO_snoc cs);have kb:=Q (pkL_snoc cs);generalize pkO cs=po at xw HPO;generalize pkL cs=pl at xw kb;have HMX:=Q (fun a c=>max_run a c);obtain⟨po1,hpo1⟩:∃x,x=max po g.l.length:=⟨_,rfl⟩;obtain⟨pl1,hpl1⟩:∃x,x=max pl (nlev g.l):=⟨_,rfl⟩;have cC:∀W,(Builtin.max_ #[3,3] 3 #[H po,H g.l.length]).run Tryz.prog W = .ok (H (po1:Int)) W:=fun W=>by rw[hpo1];exact Z HMX _ _ W
   have hmax2:∀W,(Builtin.max_ #[3,3] 3 #[H pl,H (nlev g.l:Nat)]).run Tryz.prog W = .ok (H (pl1:Int)) W:=fun W=>by rw[hpl1];exact Z HMX _ _ W
   have HPO1:=Q hpo1;have HPL1:=Q hpl1;have bN:=Q (fun V hV=>l03Levels_any (.slice la g.l.length lc) g.l V hV (by omega));generalize hnl:nlev g.l=nl at bN hmax2 HPL1;have HNL:=Q hnl;clear hnl;clear hpo1 hpl1 HMX;go_wp2_with fail;generalize ((w3.setCell (U hg 5) (H g.nx)).setCell (U hg 6) (.slice la g.l.length lc))=W4 at xw |-;clear c5 c6 f5 f6;have z16:W4.drew.cell? (U hg 16)=some (H po):=Y (Z xw).mb.box 16 rfl;have f16:W4.drew.frozen? (U hg 16)=false:=zc (Z xw).mb.box 16 (by show _ < 18;decide);have z6:W4.drew.cell? (U hg 6)=some (.slice la g.l.length lc):=Y (Z xw).mb.box 6 rfl;refine zw 12 (by kernel_rfl) (by kernel_rfl) ?_;simp only[yT,List.take_zero,yU,List.drop_zero]
   repeat still_step
   refine wpStill_nil ?_;have uK:Hid (MX w hg (mjV (.slice a l.length c) k0 s 0 0 g.nx (.slice la g.l.length lc) T vU po1 pl) (.slice la g.l.length lc) g.l vU (cs++tolds es) (W4.setCell (U hg 16) (H (po1:Int))).drew):=mx_sets (Z xw) 16 [H (po1:Int)] (Nat.le_of_ble_eq_true rfl);go_wp2_with fail;generalize (W4.setCell (U hg 16) (H (po1:Int))).drew=W5 at uK |-;clear z16 f16 z6 cC xw;have vE:=Q (mx_below (Z uK) (Below.refl W5.heap.size W5).drew);have z17:W5.drew.cell? (U hg 17)=some (H pl):=Y (Z vE).mb.box 17 rfl;have z6:W5.drew.cell? (U hg 6)=some (.slice la g.l.length lc):=Y (Z vE).mb.box 6 rfl;have f17:W5.drew.frozen? (U hg 17)=false:=zc (Z vE).mb.box 17 (by show _ < 18;decide);have hM5:hg<W5.drew.heap.size:=(Z vE).mb.lt
   go_region_with (go_at_call 89;refine(Z bN _ (zP (Z vE).row (by omega))).mono ?_;rintro e w7 ⟨rfl,hg7⟩;have hq:=fZ (B:=W5.drew.heap.size) hg7 (fun _ h=>by cases h) ya;have g17:=(hq.cell (p:=(U hg 17)) hM5).trans z17;have jV:=(World.frozen?_of_block (a:=(U hg 17)) (hq.block hg hM5)).trans f17;have g6:=(hq.cell (p:=(U hg 6)) hM5).trans z6)
   all_goals
    have bh:Hid (MX w hg (mjV (.slice a l.length c) k0 s 0 0 g.nx (.slice la g.l.length lc) T vU po1 pl1) (.slice la g.l.length lc) g.l vU (cs++tolds es) (w7.setCell (U hg 17) (H (pl1:Int)))):=mx_sets (mx_below (Z vE) hq) 17 [H (pl1:Int)] (Nat.le_of_ble_eq_true rfl);go_wp2_with fail;go_end0;obtain⟨e0,r0,dv,vY,pK,qw,hgl3,-⟩:=Z HW;have hx8:=Z bh;have hrs:=run_snoc cs (zV e0);refine⟨rfl,fun q r e=>(by rw[vY] at e;cases e),fun cm e=>?_⟩;rw[vY] at e;cases e;refine⟨.slice la g.l.length lc,vU,T,⟨?_,?_,?_,?_⟩,Z HGRT⟩
    ·rw[Z HPO,Z kb,hrs];show MB w hg (mjV _ k0 s 0 0 (stN (runS cs).n (runS cs).l (zV e0)) _ T vU ((max po (stL (runS cs).n (runS cs).l (zV e0)).length:Nat):Int) ((max pl (nlev (stL (runS cs).n (runS cs).l (zV e0))):Nat):Int)) _;rw[<- qw,<- hgl3,<- Z HPO1,Z HNL,<- Z HPL1];exact hx8.mb
    ·rw[hrs];show ORow _ _ _ (stL (runS cs).n (runS cs).l (zV e0));rw[<- hgl3];exact hx8.row
    ·have:=hx8.told;rw[dv] at this;exact this
    ·rw[hrs];show Al (wgT (runS cs).t (stE (runS cs).n (runS cs).l (zV e0))) T;rw[<- pK];exact Z HALT
def MfE (hg:Nat)(w:World)(r:Option (Int × Nat × Nat × Int))(e:Ending)(w':World):Prop:=
 (r=none->e=ym (.tuple #[.int .u8 0,H 0,H 0,.bool false])/\yn w w')/\(∀m n t s,r=some (m,n,t,s)->e=ym (.tuple #[.int .u8 m,H n,H t,.bool true])/\∃W,yn w W/\w'=W.setCell (U hg 2) (H s))
theorem mfE_no {hg:Nat}{w w':World}{r:Option (Int × Nat × Nat × Int)}(h:r=none)(A:yn w w'):MfE hg w r (ym (.tuple #[.int .u8 0,H 0,H 0,.bool false])) w':=
 ⟨fun _=>⟨rfl,A⟩,fun _ _ _ _ e=>by rw[h] at e;cases e⟩
theorem mframe_any (hg:Nat)(vs:List Value)(a:Option Addr)(c:Nat)(l:List Int)(k:Nat)(s:Int)(w:World)(hx:Bx w hg (.slice a l.length c::H k::H s::vs))(hM:hg<w.heap.size)(hr:Rd w (.slice a l.length c) l)(xC:l.length<=c)(A:Bts l)(hl:l.length<=65536)(h0:0<=s)(D:s<65521) :
  Calls Tryz.prog 52 #[xj hg 0] w fun e w'=>MfE hg w (frA l k s) e w':=by
 obtain ⟨y0,y1,y2⟩:=q0_3 hx rfl;have f2:=zc hx 2 (by simp);have HX:=Q hx;have HR:=Q hr;have HB:=Q A;have HE:=Q (fun h=>frA_end (l:=l) (k:=k) (s:=s) h);have HM:=Q (fun h=>frA_mark (l:=l) (k:=k) (s:=s) h);have HN:=Q (fun h=>frA_num (l:=l) (k:=k) (s:=s) h);have uk:=Q (fun u n h A=>frA_bad (l:=l) (k:=k) (s:=s) (u:=u) (n:=n) h A);have HU:=Q (fun u n c h hu A=>frA_sum (l:=l) (k:=k) (s:=s) (u:=u) (n:=n) (c:=c) h hu A);have HY:=Q (fun u n c X D h hu hc hl A=>frA_yes (l:=l) (k:=k) (s:=s) (u:=u) (n:=n) (c:=c) X D h hu hc hl A);generalize frA l k s=FR at HE HM HN uk HU HY |-;clear hx A
 by_cases X:l.length<=k
 ·have HF:=Q (Z HE X);have h3:((k:Int) ≥ l.length):=by omega
  clear hr;go_enter Tryz.func52,Tryz.ntmps52;go_wp2_with fail;go_quiet (fail);go_wp2_with fail
  all_goals first|exact bodyPost_ret (v:=.tuple #[.int .u8 0,H 0,H 0,.bool false]) (by simp[results,Tryz.results52,go_sem]) rfl (mfE_no (Z HF) (zp (Below.refl _ _) _))|(exfalso;omega)
 ·have hk1:¬ ((l.length:Int)<=k):=by omega
  have oC:(k:Int)<l.length:=by omega
  have je:IntKind.i64.wrap ((k:Int)+1)=k+1:=by rw[IntKind.wrap_i64];omega
  obtain⟨b,off,rfl,pH⟩:∃b off,a=some (U b off)/\∀i,i<l.length->w.cell? (U b (off+i))=some (.int .u8 (l.getD i 0)):=by
   obtain⟨a',qP,e,_,hxx⟩:=hr;obtain⟨b,off,e2,hc⟩:=hxx (by intro e;rw[e] at X;simp at X);simp only[Value.slice.injEq,true_and] at e;exact⟨b,off,e.1.trans e2,hc⟩
  have x0:=pH k (by omega);have hbm:=eQ (Z HB) k;have HCC:=Q pH;clear pH hr;have HYM:=Q (fun u n c D h hu hc hl A=>Z HY u n c (by omega) D h hu hc hl A);generalize l.getD k 0=m at x0 hbm HM HYM;go_enter Tryz.func52,Tryz.ntmps52;go_wp2_with fail;go_quiet (fail);go_wp2_with fail;go_quiet (fail);go_wp2_with fail
  have HGT:Hid (∀W,yn w W->Calls Tryz.prog 78 #[.slice (some (U b off)) l.length c,H ((k:Int)+1)] W fun e w'=>e=ym (getT (getU l (k+1)))/\w'=W):=fun W hW=>by
   have h:=l01Get_any (.slice (some (U b off)) l.length c) l (k+1) W (zN (Z HR) hW ya) (by omega) hl (Z HB);rwa[show((k+1:Nat):Int)=(k:Int)+1 by omega] at h
  rcases(show m=71\/m=69\/(m≠71/\m≠69) by omega) with rfl|rfl|⟨h71,h69⟩;rotate_left 2
  ·have HF:Hid (FR=none):=Z HM ⟨h71,h69⟩;have e1:(m != 71)=true:=by simpa using h71
   have e2:(m != 69)=true:=by simpa using h69
   clear HM HN uk HU HY HYM;cases M:getU l (k+1)
   all_goals
    rw[M] at HGT
    first|simp only[iA rfl] at HGT|simp only[iX rfl] at HGT
    go_region_held3 (fun w'=>w'.cell? (U hg 0)=some (.slice (some (U b off)) l.length c)/\w'.cell? (U hg 1)=some (H k)) (first|go_keep|exact⟨y0,y1⟩) (first|(go_at_call 78;refine(Z HGT (w.drewN _) (zp (Below.refl _ _) _)).mono ?_;rintro e w' ⟨rfl,rfl⟩))
    go_wp2_with fail
    all_goals first|exact bodyPost_ret (v:=.tuple #[.int .u8 0,H 0,H 0,.bool false]) (by simp[results,Tryz.results52,go_sem]) rfl (mfE_no (Z HF) (zp (Below.refl _ _) _))|(exfalso;omega)
  all_goals
   rcases M:getU l (k+1) with _ | ⟨u,n⟩;have HF:Hid (FR=none):=Z HN M;rw[M] at HGT;simp only[iA rfl] at HGT;clear HM HN uk HU HY HYM M;rotate_left;have uB:=gj 10 0 0 l (k+1) u n M;have uH:=Q (fun h=>Z uk u n M h);have HUE:=Q (fun c hu A=>Z HU u n c M hu A);have HYE:=Q (fun c hu hc hl A=>Z HYM u n c (by omega) M hu hc hl A);rw[M] at HGT;simp only[iX rfl] at HGT;clear M HM HN uk HU HY HYM;generalize unz u=z at HGT uH HUE HYE
   by_cases uE:z<0
   have HF:Hid (FR=none):=Z uH (.inl uE);clear uH HUE HYE;rotate_left
   by_cases uw:8192<z
   have HF:Hid (FR=none):=Z uH (.inr (.inl uw));clear uH HUE HYE;rotate_left;obtain⟨d,rfl⟩:=Int.eq_ofNat_of_zero_le (show 0<=z by omega);have ju:IntKind.i64.wrap ((n:Int)+d)=n+d:=by rw[IntKind.wrap_i64];omega
   have aV:IntKind.i64.wrap ((n:Int)+d+2)=n+d+2:=by rw[IntKind.wrap_i64];omega
   by_cases uC:l.length<n+d+2
   have HF:Hid (FR=none):=Z uH (.inr (.inr (by omega)));have hz3:((l.length:Int)<n+d+2):=by omega
   clear uH HUE HYE;rotate_left;have hz3:¬ ((l.length:Int)<n+d+2):=by omega
   all_goals
    go_region_held3 (fun w'=>w'.cell? (U hg 0)=some (.slice (some (U b off)) l.length c)/\w'.cell? (U hg 1)=some (H k)) (first|go_keep|exact⟨y0,y1⟩) (first|(go_at_call 78;refine(Z HGT (w.drewN _) (zp (Below.refl _ _) _)).mono ?_;rintro e w' ⟨rfl,rfl⟩))
    go_wp2_with fail
   rotate_left
   all_goals try (first|exact bodyPost_ret (v:=.tuple #[.int .u8 0,H 0,H 0,.bool false]) (by simp[results,Tryz.results52,go_sem]) rfl (mfE_no (Z HF) (zp (Below.refl _ _) _))|(exfalso;omega))
   have HSR:Hid (Rd w (.slice (some (U b (off+k))) (n+d-k) (c-k)) ((l.drop k).take (n+d-k))):=rd_piece (Z HR) hl rfl (by omega) _ (by omega);have HSU:Hid (∀W,yn w W->Calls Tryz.prog 51 #[.slice (some (U b (off+k))) (n+d-k) (c-k),H s] W fun e w'=>e=ym (H (sumL ((l.drop k).take (n+d-k)) s))/\w'=W):=fun W hW=>l01Sum_any _ _ s W (zN (Z HSR) hW ya) (fun x hx=>Z HB x (List.mem_of_mem_drop (List.mem_of_mem_take hx))) h0 D;have q1:(k:Int)<=n+d:=by omega
   have q2:((n:Int)+d)<=c:=by omega
   have q3:¬ (c=k):=by omega
   have q5:(0:Int)<=n:=by omega
   have q6:((n:Int)+d<l.length):=by omega
   have q7:((n:Int)+d+1<l.length):=by omega
   have q8:(0:Int)<=(n:Int)+d:=by omega
   have q9:(0:Int)<=(n:Int)+d+1:=by omega
   have hw3:IntKind.i64.wrap ((n:Int)+d+1)=n+d+1:=by rw[IntKind.wrap_i64];omega
   have HUF:=Q (fun A=>Z HUE d rfl A);have kI:=Q (fun A=>Z HYE d rfl (by omega) (by omega) A);have v0:=Z HCC (n+d) (by omega);have v1:=Z HCC (n+d+1) (by omega);have b0:=eQ (Z HB) (n+d);have b1:=eQ (Z HB) (n+d+1);generalize l.getD (n+d) 0=m0 at v0 b0 HUF kI;generalize l.getD (n+d+1) 0=m1 at v1 b1 HUF kI;generalize sumL ((l.drop k).take (n+d-k)) s=s2 at HSU HUF kI;have hw4:IntKind.i64.wrap (m0*256)=m0*256:=by rw[IntKind.wrap_i64];omega
   have hw5:IntKind.i64.wrap (m0*256+m1)=m0*256+m1:=by rw[IntKind.wrap_i64];omega
   have hw6:IntKind.i64.wrap m0=m0:=by rw[IntKind.wrap_i64];omega
   have hw7:IntKind.i64.wrap m1=m1:=by rw[IntKind.wrap_i64];omega
   clear uH HUE HYE HGT
   go_region_held3 (fun w'=>w'.cell? (U hg 0)=some (.slice (some (U b off)) l.length c)/\w'.cell? (U hg 1)=some (H k)/\w'.cell? (U hg 2)=some (H s)) (first|go_keep|exact⟨y0,y1,y2⟩) (first|(go_at_call 51;refine(Z HSU (w.drewN _) (zp (Below.refl _ _) _)).mono ?_;rintro e w' ⟨rfl,rfl⟩))
   go_wp2_with fail;go_quiet (fail)
   by_cases hq:m0*256+m1=s2
   ·have HF:=Q (Z kI hq);have e1:(m0*256+m1 != s2)=false:=by simpa using hq
    clear HUF kI;go_wp2_with fail;refine bodyPost_ret (by simp[results,Tryz.results52,go_sem];try rfl) rfl ?_;refine⟨fun h=>(by rw[Z HF] at h;cases h),fun m' n' t' s' e=>?_⟩;rw[Z HF] at e;simp only[Option.some.injEq,Prod.mk.injEq] at e;obtain⟨rfl,rfl,rfl,rfl⟩:=e;exact⟨by simp,_,zp (Below.refl _ _) _,rfl⟩
   ·have HF:=Q (Z HUF hq);have e1:(m0*256+m1 != s2)=true:=by simpa using hq
    clear HUF kI;go_wp2_with fail;exact bodyPost_ret (v:=.tuple #[.int .u8 0,H 0,H 0,.bool false]) (by simp[results,Tryz.results52,go_sem]) rfl (mfE_no (Z HF) (zp (zp (Below.refl _ _) _) _))
theorem rd_h3 (w:World):Rd (w.alloc (J #[.int .u8 84,.int .u8 74,.int .u8 49] 5)) (.slice (some (U w.heap.size 0)) 3 3) [84,74,49]:=
 ⟨_,3,rfl,by simp,fun _=>⟨w.heap.size,0,rfl,fun i hi=>by
  match i,hi with
  | 0,_=>unfold World.cell?;rw[heap_alloc_new];rfl
  | 1,_=>unfold World.cell?;rw[heap_alloc_new];rfl
  | 2,_=>unfold World.cell?;rw[heap_alloc_new];rfl
  | n+3,hi=>exact absurd hi (by simp)⟩⟩
theorem l06Head_any (w:World):Calls Tryz.prog 49 #[] w fun e w'=>∃gb go c,e=ym (.slice (some (U gb go)) 3 c)/\Rd w' (.slice (some (U gb go)) 3 c) [84,74,49]/\yn w w'/\w.heap.size<=gb:=by
 have HB:Hid (yn w (w.alloc (J #[.int .u8 84,.int .u8 74,.int .u8 49] 5))):=lT _ _;have HR:=Q (rd_h3 w);go_enter Tryz.func49,Tryz.ntmps49;go_wp2_with fail;refine bodyPost_ret (by simp[results,Tryz.results49,go_sem];try rfl) rfl ?_;exact⟨_,_,_,rfl,Z HR,Z HB,Nat.le_refl _⟩
theorem rd_setO {W:World}{gb go n gc hg j:Nat}{u:Value}{l:List Int}(h:Rd W (.slice (some (U gb go)) n gc) l)(xy:gb≠hg):Rd (W.setCell (U hg j) u) (.slice (some (U gb go)) n gc) l:=by
 obtain⟨a,cap,e,hl,hc⟩:=h;refine⟨a,cap,e,hl,fun hne'=>?_⟩;obtain⟨b,off,rfl,xm⟩:=hc hne';simp only[Value.slice.injEq,Option.some.injEq,Addr.mk.injEq,and_true] at e;obtain⟨⟨rfl,rfl⟩,-,-⟩:=e;exact⟨gb,go,rfl,fun i hi=>(yQ (a:=(U gb (go+i))) (yS _ _ _ _ xy)).trans (xm i hi)⟩
def MrE (w:World)(hg:Nat)(v:Value)(lV:List Cm × Nat × Int)(w':World):Prop:=
 (lV.2.2≠0->MF w hg v lV.2 w')/\(lV.2.2=0->lV.2.1=0/\∃k s T vq vt,MJ w hg v k s 0 0 lV.1 T vq vt w')
theorem mrE_bad {w:World}{hg:Nat}{v:Value}{lV:List Cm × Nat × Int}{cs:List Cm}{q:Nat}{r:Int}{w':World}{k s n:Int}{vq vt:Value}{T:Tot}{po pv:Int}(hj:lV=(cs,q,r))(hr:r≠0)(h:MB w hg (mjV v k s r q n vq T vt po pv) w'):MrE w hg v lV w':=by
 subst hj;exact⟨fun _=>⟨_,_,_,_,_,_,_,_,h⟩,fun e=>absurd e hr⟩
def atM (hg:Nat)(W:World):Nat:=match W.cell? (U hg 1) with|some (.int _ n)=>n.toNat | _=>0
theorem atM_eq {w:World}{hg:Nat}{v:Value}{k:Nat}{s ru pl n:Int}{vq vt:Value}{T:Tot}{po pv:Int}{W:World}(h:MB w hg (mjV v k s ru pl n vq T vt po pv) W):atM hg W=k:=by
 unfold atM;rw[Y h.box 1 rfl];simp
theorem endJ_zero {l:List Int}{n t:Nat}{cs:List Cm}(h:(endJ l n t cs).2=0):(endJ l n t cs).1=0:=by
 unfold endJ at h |-;split at h
 ·cases h
 ·split at h
  ·cases h
  ·rename_i D E;rw[if_neg D,if_neg E]
theorem mrun_any {w:World}{hg:Nat}{a:Option Addr}{c:Nat}{l:List Int}{T0:Tot}{vq vt:Value}(W:World)(h:MJ w hg (.slice a l.length c) 0 0 0 0 [] T0 vq vt W)(hT:T0.gr=0)(hr:Rd w (.slice a l.length c) l)(xC:l.length<=c)(A:Bts l)(hl:l.length<=65536) :
  Calls Tryz.prog 32 #[xj hg 0] W fun e w'=>e=ym (.tuple #[])/\MrE w hg (.slice a l.length c) (judJ l) w':=by
 have HM:=Q h;have HR:=Q hr;have kZ:=Q A;have aZ:=Q (judJ.eq_1 l);have HS0:=Q (io [84,74,49] 1 (by omega) (by omega));have HSU:=Q (fun v W hv=>l01Sum_any v [84,74,49] 1 W hv head_bts (by omega) (by omega));generalize sumL [84,74,49] 1=s0 at HSU aZ HS0;generalize judJ l=JJ at aZ |-;have HT0:=Q hT;clear h hr A hT;go_enter Tryz.func32,Tryz.ntmps32;go_wp2_with fail;refine(l06Head_any W).mono ?_;rintro e w1 ⟨gb,go,gc,rfl,hrd1,xR,hgb⟩;have hgM:gb≠hg:=by have:=(Z HM).mb.lt;omega
 have jx:=Q (gL (Z HM) xR);have vW:=Q hrd1;clear hrd1 xR hgb HM;go_wp2_with fail;go_loopw [3] (fun iv wr=>∃(i:Nat),i<=3/\iv=H i/\i<=l.length/\Hid (l.take i = [84,74,49].take i)/\Hid (yn w1 wr)) (fun iv _=>3-(intOf iv).toNat)
 case atStart=>exact⟨0,by omega,rfl,Nat.zero_le _,rfl,Below.refl _ _⟩
 case round =>
  obtain⟨i,hi,rfl,hil,uV,HB⟩:=hrel;have aC:=Q (gL (Z jx) (Z HB));have qy:=Q (zN (Z vW) (Z HB) ya);clear jx vW;have y0:=Y (Z aC).mb.box 0 rfl
  by_cases xH:i<3
  ·have uq:(i:Int)<3:=by omega
   by_cases om:l.length<=i
   ·have hll':((i:Int) ≥ l.length):=by omega
    have HF:Hid (JJ=([],0,1)):=by
     show _ = _;rw[Z aZ,if_neg];intro e;have:=congrArg List.length e;rw[List.length_take] at this;simp only[List.length_cons,List.length_nil] at this;omega
    clear uV aZ;go_wp2_with fail;go_quiet (fail);go_wp2_with fail;refine(gI 1 0 _ (iE (Z aC).mb (zp (Below.refl _ _) _))).mono ?_;rintro e w5 ⟨rfl,qR⟩;have un:=Q qR;clear qR;go_wp2_with fail
    try simp only[Exit.inBlock,Exit.then]
    refine bodyPost_ret (results_none rfl _ _ _) rfl ?_;exact⟨rfl,mrE_bad (q:=0) (Z HF) (by decide) (Z un)⟩
   have hll':¬ ((i:Int) ≥ l.length):=by omega
   have hll2:(i:Int)<l.length:=by omega
   obtain⟨b,off,rfl,pH⟩:∃b off,a=some (U b off)/\∀j,j<l.length->wr.cell? (U b (off+j))=some (.int .u8 (l.getD j 0)):=by
    obtain⟨a',qP,e,_,hxx⟩:=zN (Z HR) (Z aC).mb.bel ya;obtain⟨b,off,e2,hc⟩:=hxx (by intro e;rw[e] at om;simp at om);simp only[Value.slice.injEq,true_and] at e;exact⟨b,off,e.1.trans e2,hc⟩
   have hgc:∀j,j<3->wr.cell? (U gb (go+j))=some (.int .u8 ([84,74,49].getD j 0)):=by
    obtain⟨a',qP,e,_,hxx⟩:=Z qy;obtain⟨b,off,e2,hc⟩:=hxx (by simp);rw[e2] at e;simp only[Value.slice.injEq,Option.some.injEq,Addr.mk.injEq,and_true] at e;obtain⟨⟨rfl,rfl⟩,-,-⟩:=e;exact hc
   have x0:=pH i (by omega);have x1:=hgc i xH
   have HQ:Hid ((l.getD i 0 = [84,74,49].getD i 0->l.take (i+1) = [84,74,49].take (i+1))/\(l.getD i 0 ≠ [84,74,49].getD i 0->JJ=([],0,1))):=by
    refine⟨fun h=>take_succ_eq (Z uV) (by omega) (by simpa using xH) h,fun h=>?_⟩;rw[Z aZ,if_neg];intro e;apply h;rw[<- e];simp[List.getD,xH]
   generalize l.getD i 0=u0 at x0 HQ;generalize [84,74,49].getD i (0:Int)=u1 at x1 HQ;clear pH hgc uV
   by_cases hu:u0=u1
   ·have hub:(u0 != u1)=false:=by simpa using hu
    have bP:=Q ((Z HQ).1 hu);have HRK:=Q (Z qy);clear hu HQ;go_wp2_with fail;go_quiet (fail);go_wp2_with fail;go_roundw
    case rel=>exact⟨i+1,by omega,by go_num,by omega,bP,zp (Z HB) _⟩
    case measure=>simp[intOf];omega
   ·have hub:(u0 != u1)=true:=by simpa using hu
    have HF:=Q ((Z HQ).2 hu);clear hu HQ aZ;go_wp2_with fail;go_quiet (fail);go_wp2_with fail;refine(gI 1 0 _ (iE (Z aC).mb (zp (Below.refl _ _) _))).mono ?_;rintro e w5 ⟨rfl,qR⟩;have un:=Q qR;clear qR;go_wp2_with fail
    try simp only[Exit.inBlock,Exit.then]
    refine bodyPost_ret (results_none rfl _ _ _) rfl ?_;exact⟨rfl,mrE_bad (q:=0) (Z HF) (by decide) (Z un)⟩
  ·obtain rfl:i=3:=by omega
   have hge:¬ (((3:Nat):Int)<3):=by omega
   have HK0:Hid (JJ=jdK l 3 s0 []):=by show _ = _;rw[Z aZ];exact if_pos (Z uV)
   clear uV aZ;have c1:=Y (Z aC).mb.box 1 rfl;have c2:=Y (Z aC).mb.box 2 rfl;have f1:=zc (Z aC).mb.box 1 (by show _ < 18;decide);have f2:=zc (Z aC).mb.box 2 (by show _ < 18;decide);have HMA:=Q (ij (k':=3) (Z aC) 1 [H 3] (Nat.le_of_ble_eq_true rfl) rfl (Z aC).al);simp only[World.setCells] at HMA;have HRA:Hid (Rd (wr.setCell (U hg 1) (H 3)) (.slice (some (U gb go)) 3 gc) [84,74,49]):=rd_setO (Z qy) hgM;have c2':=Y (Z HMA).mb.box 2 rfl;have f2':=zc (Z HMA).mb.box 2 (by show _ < 18;decide);go_wp2_with fail;refine(Z HSU _ _ (Z HRA)).mono ?_;rintro e w2 ⟨rfl,aV⟩;have kE:=Q (ij (s':=s0) (Z HMA) 2 [H s0] (Nat.le_of_ble_eq_true rfl) rfl (Z HMA).al);simp only[World.setCells] at kE;rw[aV];clear aV;go_wp2_with fail;generalize ((wr.setCell (U hg 1) (H 3)).setCell (U hg 2) (H s0))=W2 at kE |-;clear c1 c2 f1 f2 c2' f2' HMA HRA aC qy HSU y0;go_loopw [] (fun wr=>(∃(k:Nat) (s:Int) (cs:List Cm) (T:Tot) (vq vt:Value),k<=l.length/\0<=s/\s<65521/\cs.length<=200/\Hid (T.gr=cs.length)/\Hid (MJ w hg (.slice a l.length c) k s 0 0 cs T vq vt wr)/\Hid (JJ=jdK l k s cs))\/(∃(k:Nat) (s n:Int) (vq:Value) (T:Tot) (vt:Value) (po pv:Int),Hid (JJ.2.2≠0)/\Hid (MB w hg (mjV (.slice a l.length c) k s JJ.2.2 JJ.2.1 n vq T vt po pv) wr))) (fun wr=>l.length-atM hg wr)
   case atStart=>exact .inl ⟨3,s0,[],T0,vq,vt,hil,(Z HS0).1,(Z HS0).2,by simp,HT0,kE,HK0⟩
   case round =>
    clear kE HK0 HT0 HS0;rcases hrel with⟨k,s,cs,T,vq,vt,X,kt,xI,bz,HTG,HMJ,HK⟩|⟨k,s,n,vq,T,vt,po,pv,HNZ,kE⟩
    case inr =>
     have y3:=Y (Z kE).box 3 rfl;generalize hru:JJ.2.2=ru at y3 HNZ kE;have hnz:(ru==0)=false:=by simpa using Z HNZ
     have uy:=Q hru;clear hru;go_wp2_with fail;go_end0;refine⟨rfl,fun _=>⟨k,s,n,vq,T,vt,po,pv,?_⟩,fun e=>absurd ((Z uy).symm.trans e) (Z HNZ)⟩;rw[Z uy];exact Z kE
    have y3:=Y (Z HMJ).mb.box 3 rfl;have HAT:=Q (atM_eq (Z HMJ).mb);have aj:=Q (mframe_any hg [H 0,H 0,H (runS cs).n,vq,H T.gr,H T.ac,H T.rf,H T.tr,H T.vo,H T.no,H T.li,H T.le,vt,H (pkO cs),H (pkL cs)] a c l k s wr (Z HMJ).mb.box (Z HMJ).mb.lt (zN (Z HR) (Z HMJ).mb.bel ya) xC (Z kZ) hl kt xI);go_wp2_with fail;refine(Z aj).mono ?_;rintro e w3 hfe;clear aj y3;cases qz:frA l k s with
    | none =>
     obtain⟨rfl,xN⟩:=hfe.1 qz;have HF:Hid (JJ=(cs,k,1)):=(Z HK).trans (jdK_none qz);have ox:=Q (gL (Z HMJ) xN);clear hfe qz xN HMJ HK;have y1:=Y (Z ox).mb.box 1 rfl;go_wp2_with fail;refine(gI 1 k _ (Z ox).mb).mono ?_;rintro e w5 ⟨rfl,qR⟩;have un:=Q qR;clear qR;go_wp2_with fail
     try simp only[Exit.inBlock,Exit.then]
     refine bodyPost_ret (results_none rfl _ _ _) rfl ?_;exact⟨rfl,mrE_bad (Z HF) (by decide) (Z un)⟩
    | some x =>
     obtain⟨m,n,t,s2⟩:=x;obtain⟨rfl,W3,xN,rfl⟩:=hfe.2 m n t s2 qz;obtain⟨hkn,hnt,htl,htn,hm,uc⟩:=frA_some qz;have xq:Hid (0<=s2/\s2<65521):=by rw[uc];exact io _ _ kt xI
     have ox:=Q (ij (s':=s2) (gL (Z HMJ) xN) 2 [H s2] (Nat.le_of_ble_eq_true rfl) rfl (Z HMJ).al);simp only[World.setCells] at ox;clear hfe xN HMJ uc;generalize (W3.setCell (U hg 2) (H s2))=W4 at ox |-;rcases hm with rfl|rfl
     ·by_cases h200:cs.length=200
      ·have HF:Hid (JJ=(cs,k,18)):=(Z HK).trans (jdK_many qz h200);have y1:=Y (Z ox).mb.box 1 rfl;have y7:=Y (Z ox).mb.box 7 rfl;rw[show T.gr=200 by rw[Z HTG,h200];rfl] at y7;clear qz HK h200;go_wp2_with fail;refine(gI 18 k _ (Z ox).mb).mono ?_;rintro e w5 ⟨rfl,qR⟩;have un:=Q qR;clear qR;go_wp2_with fail
       try simp only[Exit.inBlock,Exit.then]
       refine bodyPost_ret (results_none rfl _ _ _) rfl ?_;exact⟨rfl,mrE_bad (Z HF) (by decide) (Z un)⟩
      ·have HGB:=Q (fun q r h=>(Z HK).trans (jdK_bad (q:=q) (r:=r) qz h200 h));have cN:=Q (fun cm h=>(Z HK).trans (jdK_go (c:=cm) qz h200 h));have HNE:=Q (fun q r h=>grpJ_ne (p:=(l.drop n).take (t-n)) (cs:=cs) (q:=q) (r:=r) h);have HMG:=Q (mgroup_any n t W4 (Z ox) (by omega) (Z HR) xC (Z kZ) hl hnt htl);have vY:(T.gr==200)=false:=by rw[Z HTG];simp;omega
       have y7:=Y (Z ox).mb.box 7 rfl;generalize grpJ ((l.drop n).take (t-n)) cs=GR at HGB cN HNE HMG;have h201:cs.length+1<=200:=by omega
       clear qz HK h200;go_wp2_with fail;refine(Z HMG).mono ?_;rintro e w5 ⟨rfl,ut,kq⟩;have hwt:IntKind.i64.wrap ((t:Int)+2)=(t:Int)+2:=by rw[IntKind.wrap_i64];omega
       clear HMG ox y7;cases GR with
       | inl x =>
        obtain⟨q,r⟩:=x;obtain⟨k',s',n',ux,T',vU,po',pv',hmb⟩:=ut q r rfl;have HF:=Q (Z HGB q r rfl);have HN:=Q (Z HNE q r rfl);have un:=Q hmb;clear ut kq hmb HGB cN HNE;have y7:=Y (Z un).box 7 rfl;have f7:=zc (Z un).box 7 (by show _ < 18;decide);have y1:=Y (Z un).box 1 rfl;have f1:=zc (Z un).box 1 (by show _ < 18;decide)
        have qp:Hid (MB w hg (mjV (.slice a l.length c) ((t+2:Nat):Int) s' r ((n+q:Nat):Int) n' ux { T' with gr:=wrap64 (T'.gr+1) } vU po' pv') ((w5.setCell (U hg 7) (H (wrap64 (T'.gr+1)))).setCell (U hg 1) (H ((t:Int)+2)))):=by
         rw[show((t+2:Nat):Int)=(t:Int)+2 by omega];exact ig (ig (Z un) 7 [H (wrap64 (T'.gr+1))] (Nat.le_of_ble_eq_true rfl)) 1 [H ((t:Int)+2)] (Nat.le_of_ble_eq_true rfl)
        go_wp2_with fail;go_roundw
        case rel=>exact .inr ⟨t+2,s',n',ux,{ T' with gr:=wrap64 (T'.gr+1) },vU,po',pv',by rw[Z HF];exact Z HN,by rw[Z HF];exact qp⟩
        case measure=>rw[Z HAT,atM_eq (Z qp)];omega
       | inr cm =>
        obtain⟨ux,vU,T',hmj,htg⟩:=kq cm rfl;have HF:=Q (Z cN cm rfl);have un:=Q hmj;have hgw:IntKind.i64.wrap (T'.gr+1)=T'.gr+1:=by rw[htg,Z HTG,IntKind.wrap_i64];omega
        have vj:Hid (T'.gr+1=((cs ++ [cm]).length:Int)):=by show _ = _;rw[htg,Z HTG,yP];simp
        clear ut kq hmj htg HGB cN HNE;have y7:=Y (Z un).mb.box 7 rfl;have f7:=zc (Z un).mb.box 7 (by show _ < 18;decide);have y1:=Y (Z un).mb.box 1 rfl;have f1:=zc (Z un).mb.box 1 (by show _ < 18;decide);have HM6:=Q (ij (T':={ T' with gr:=T'.gr+1 }) (Z un) 7 [H (T'.gr+1)] (Nat.le_of_ble_eq_true rfl) rfl ⟨(Z un).al.ac,(Z un).al.rf,(Z un).al.tr,(Z un).al.vo,(Z un).al.no⟩)
        have qp:Hid (MJ w hg (.slice a l.length c) ((t+2:Nat):Int) s2 0 0 (cs ++ [cm]) { T' with gr:=T'.gr+1 } ux vU ((w5.setCell (U hg 7) (H (T'.gr+1))).setCell (U hg 1) (H ((t:Int)+2)))):=by
         rw[show((t+2:Nat):Int)=(t:Int)+2 by omega];exact ij (Z HM6) 1 [H ((t:Int)+2)] (Nat.le_of_ble_eq_true rfl) rfl (Z HM6).al
        go_wp2_with fail;go_roundw
        case rel=>exact .inl ⟨t+2,s2,cs ++ [cm],{ T' with gr:=T'.gr+1 },ux,vU,by omega,(Z xq).1,(Z xq).2,by simp;omega,vj,qp,HF⟩
        case measure=>rw[Z HAT,atM_eq (Z qp).mb];omega
     ·have HF:=Q ((Z HK).trans (jdK_end qz));have HME:=Q (mend_any n t W4 (Z ox) bz (Z HTG) (Z HR) (Z kZ) hl hnt htl);have HZ:=Q (endJ_zero (l:=l) (n:=n) (t:=t) (cs:=cs));generalize endJ l n t cs=EJ at HF HME HZ;clear qz HK ox;go_wp2_with fail;refine(Z HME).mono ?_;rintro e w5 ⟨rfl,T',qR⟩;have un:=Q qR;clear qR;go_wp2_with fail
      try simp only[Exit.inBlock,Exit.then]
      refine bodyPost_ret (results_none rfl _ _ _) rfl ?_;refine⟨rfl,?_⟩;rw[Z HF];refine⟨fun _=>⟨_,_,_,_,_,_,_,_,(Z un).mb⟩,fun e=>⟨Z HZ e,k,s2,T',vq,vt,?_⟩⟩;have h5:=Z un;rw[show EJ.2=0 from e,Z HZ e] at h5;exact h5
end Go.Proofs.YtbghmldggahjiaaGreatDoor
