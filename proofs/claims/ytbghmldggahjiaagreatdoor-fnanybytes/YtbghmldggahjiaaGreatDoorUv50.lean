/-.-/
import Derived.Test.YtbghmldggahjiaaGreatDoorUj49
set_option linter.unusedVariables false
set_option maxHeartbeats 6400000
set_option maxRecDepth 100000
namespace Go.Proofs.YtbghmldggahjiaaGreatDoor
open Go.RowKit
def sdV (sd:Int)(b:Nat):Value:=if sd=1 then fo b else fq b
def TrA (L:List Od)(sd:Int)(V:World)(b:Nat):Prop:=if sd=1 then dQ 249 true V b 1 (zB L 1) else dQ 252 false V b 2 (zB L 2)
structure CG (lV B C bk:Nat) (w:World) (vt0 va vb:Value) (N:Int) (L:List Od) (es:List Ev) (vs:List Value) (vt:Value) (tl:List Cm) (W:World):Prop where
 kp:Kp lV vt0 w W
 box:Bx W lV vs
 typ:∃cur,W.heap[lV]? = some (.cells cur 45 (0,0))
 told:W.ownsRow B 57 8 vt tl.length (tl.flatMap Cm.vs)
 bkx:Bx W bk [.int .i64 N,vb]
 row:ORow W B vb L
 rd:ERow W C va es
 jl:lV<W.heap.size
 kl:bk<W.heap.size
 ne:bk≠lV
section
variable {lV B C bk:Nat} {w:World} {vt0 va vb:Value} {N:Int} {L:List Od} {es:List Ev} {vs:List Value} {vt:Value} {tl:List Cm} {W W':World}
theorem cg_below (h:CG lV B C bk w vt0 va vb N L es vs vt tl W)(A:yn W W'):CG lV B C bk w vt0 va vb N L es vs vt tl W':=by
 obtain⟨xr,hc⟩:=h.typ;exact⟨eg h.kp A,zf h.box A h.jl,⟨xr,(A.block lV h.jl).trans hc⟩,fP h.told A,zf h.bkx A h.kl,zK h.row A,fc h.rd A,yJ h.jl A.size,yJ h.kl A.size,h.ne⟩
theorem cg_kp (v:Value)(h:CG lV B C bk w vt0 va vb N L es vs vt tl W)(X:Kp lV v W W')(hv:∀b,v.ownBlock=some b->vt0.ownBlock=some b/\(∃xr,W.heap[b]? = some (.cells xr 57 (0,0)))/\b≠bk){vs':List Value}{vU:Value}{tl':List Cm}(hx:Bx W' lV vs')(ht:∃xr,W'.heap[lV]? = some (.cells xr 45 (0,0)))(K:W'.ownsRow B 57 8 vU tl'.length (tl'.flatMap Cm.vs)):CG lV B C bk w vt0 va vb N L es vs' vU tl' W':=by
 have apart:∀ {B e sz n:Nat} {u:Value} {xs:List Value},W.ownsRow B e sz u n xs->57 ≠ e->u.ownBlock=none\/u.ownBlock≠v.ownBlock:=fun {B e sz n u xs} K xy=>by
  cases hvb:v.ownBlock with
  | none=>cases hu:u.ownBlock with
   | none=>exact .inl rfl
   | some x=>exact .inr (by simp)
  | some b=>exact .inr fun e=>zy K (hv b hvb).2.1 xy (by rw[e])
 refine⟨⟨X.os.trans h.kp.os,X.tape.trans h.kp.tape,X.output.trans h.kp.output,yN h.kp.size X.size,fun k hl D E=>?_⟩,hx,ht,K,?_,kp_own h.row X (zy h.row h.typ (by decide)) (apart h.row (by decide)),kp_own h.rd X (zy h.rd h.typ (by decide)) (apart h.rd (by decide)),yJ h.jl X.size,yJ h.kl X.size,h.ne⟩
 ·exact(X.block k (yJ hl h.kp.size) D (fun e=>E (hv k e.symm).1.symm)).trans (h.kp.block k hl D E)
 ·exact zQ h.bkx (X.block bk h.kl h.ne (fun e=>(hv bk e.symm).2.2 rfl))
theorem fF (h:CG lV B C bk w vt0 va vb N L es vs vt tl W)(j:Nat)(u:Value)(hj:j<vs.length):CG lV B C bk w vt0 va vb N L es (vs.set j u) vt tl (W.setCell (U lV j) u):=
 cg_kp (.slice none 0 0) h (kp_set (eL (Below.refl _ _)) j u) (fun b A=>by cases A) (eh h.box hj) (gP h.typ) (dT h.told (zy h.told h.typ (by decide)) j u)
end
theorem jgClose_any:CloseG:=by
 intro lV B cs vq vt e0 r va vb C w h bz xD kz X hE xS;have hsf:=sfl;obtain⟨i0,hi,uE,uw,uC⟩:=info_parts infoCJ;have hJl:=h.lt;have xU:RdR Ev.vs 14 w va (e0::r):=ik (gh Ev.len (by omega) kz);have jj:=Q (fun W=>toldCmd_any e0 W X);have HRN:=Q (run_snoc cs (zV e0));unfold rstep at HRN;rw[<- hE] at HRN;generalize stN (runS cs).n (runS cs).l (zV e0)=N at HRN;generalize stL (runS cs).n (runS cs).l (zV e0)=L at xS HRN;have HPO:=Q (pkO_snoc cs (zV e0));have kb:=Q (pkL_snoc cs (zV e0));rw[Z HRN] at HPO kb;have jK:=(gR (cs ++ [zV e0]) (by simp;omega)).1;rw[Z HRN] at jK;have qM:Hid (GoodL L):=jK.good;have bT:Hid (∀o∈L,o.side=1\/o.side=2):=jK.side;clear hE X jK;generalize zV e0=tc at jj HRN HPO kb |-;obtain⟨pz,ts,tt,tl,tq,ti,tp,tg⟩:=tc;have jm:=h.box;have htp:=h.typ;have htl:=h.told;have hJB:=h.hJ;have HVL:Hid (∀b,vt.ownBlock=some b->b<w.heap.size):=fun b A=>(h.told.lt b A).2;unfold jgV at jm
 have HFN:Hid (∀W vU,Bx W lV [H N,vb,H (wgT (runS cs).t (e0::r)).gr,H (wgT (runS cs).t (e0::r)).ac,H (wgT (runS cs).t (e0::r)).rf,H (wgT (runS cs).t (e0::r)).tr,H (wgT (runS cs).t (e0::r)).vo,H (wgT (runS cs).t (e0::r)).no,H (wgT (runS cs).t (e0::r)).li,H (wgT (runS cs).t (e0::r)).le,vU,H (max (pkO cs) L.length:Nat),H (max (pkL cs) (nlev L):Nat)]->(∃xr,W.heap[lV]? = some (.cells xr 45 (0,0)))->ORow W B vb L->W.ownsRow B 57 8 vU (cs.length+1) (cs.flatMap Cm.vs++Cm.vs ⟨pz,ts,tt,tl,tq,ti,tp,tg⟩)->JG lV B W (cs ++ [⟨pz,ts,tt,tl,tq,ti,tp,tg⟩]) vb vU):=fun W vU D E h3 h4=>by
  refine⟨?_,E,?_,?_,hJB⟩
  ·unfold jgV;rw[Z HRN,Z HPO,Z kb];simpa using D
  ·rw[Z HRN];exact h3
  ·simpa using h4
 clear h HRN HPO kb;generalize (runS cs).n=n0 at jm;generalize (runS cs).t=t0 at jm HFN;generalize pkO cs=po at jm HFN;generalize pkL cs=pl at jm HFN;obtain⟨ba,bc,rfl⟩:=fI xS;obtain⟨a,c,rfl,-,hc⟩:=id xU;obtain⟨b,off,rfl,hbl,hc⟩:=hc (by simp);have ks:=hc 0 e0 rfl;simp only[Nat.zero_mul,Nat.add_zero] at ks;have xA:=lT w (J #[H N,(.slice ba L.length bc)] 41)
 have HCG:Hid (CG lV B C w.heap.size w vt (.slice (some (U b off)) (e0::r).length c) (.slice ba L.length bc) N L (e0::r) [H n0,vq,H t0.gr,H t0.ac,H t0.rf,H t0.tr,H t0.vo,H t0.no,H t0.li,H t0.le,vt,H po,H pl] vt cs (w.alloc (J #[H N,(.slice ba L.length bc)] 41))):=by
  obtain⟨xr,hc⟩:=htp;exact⟨eL xA,zf jm xA hJl,⟨xr,(xA.block lV hJl).trans hc⟩,fP htl xA,zj w [H N,(.slice ba L.length bc)] 41,zK xS xA,fc kz xA,yJ hJl xA.size,by simp,by omega⟩
 have kt:w.heap.size<(w.alloc (J #[H N,(.slice ba L.length bc)] 41)).heap.size:=by simp
 obtain⟨g0,g1,g2,g3,g4,g5,g6,g7,g8,g9,oi,jU,qh,oZ⟩:=ev_cells (zd ks xA hbl);have oo:(0:Int)<((r.length+1:Nat):Int):=by omega
 have HLE:Hid ((e0::r).length<=8192):=xD;clear kz xS xU hc jm htp htl ks xA xD;unfold evV cmV at jj;simp only at jj;go_enter Tryz.func48,Tryz.ntmps48;go_wp2_with fail;generalize (w.alloc (J #[H N,(.slice ba L.length bc)] 41))=W0 at HCG kt g0 g1 g2 g3 g4 g5 g6 g7 g8 g9 oi jU qh oZ |-;refine(Z jj W0).mono ?_;rintro e w1 ⟨rfl,xR⟩;obtain⟨kf,xF⟩:=lY w1 (yx pz ts tt tl tq ti tp tg) 57;have xE:=xR.trans (kf.mono xR.size);have oe:=Q (cg_below (Z HCG) xE);have xI:=xR.size;have uc:w1.heap.size<(w1.alloc (J (yx pz ts tt tl tq ti tp tg).toArray 57)).heap.size:=by simp
 clear g0 g1 g2 g3 g4 g5 g6 g7 g8 g9 oi jU qh oZ HCG xR xE kf jj;go_wp2_with fail;generalize (w1.alloc (J (yx pz ts tt tl tq ti tp tg).toArray 57))=W2 at oe xF uc |-;have hj10:=Y (Z oe).box 10 rfl;have hf10:=zc (Z oe).box 10 (by show 10<13;decide);obtain⟨m0,m1,m2,m3,m4,m5,m6,m7⟩:=yz (Z xF);have hneJ:some lV≠vt.ownBlock:=zy (Z oe).told (Z oe).typ (by decide);have hJ2:lV<W2.heap.size:=by omega
 have hM2:w1.heap.size<W2.heap.size:=uc;have oB:w.heap.size<W2.heap.size:=by omega
 rename_i ho hK;have HK:=Q hK;clear hK;refine(fun(HT:Hid (∀(g cap:Nat) (W3:World),CG lV B C w.heap.size w vt (.slice (some (U b off)) (e0::r).length c) (.slice ba L.length bc) N L (e0::r) [H n0,vq,H t0.gr,H t0.ac,H t0.rf,H t0.tr,H t0.vo,H t0.no,H t0.li,H t0.le,(.slice (some (U g 0)) (cs.length+1) cap),H po,H pl] (.slice (some (U g 0)) (cs.length+1) cap) (cs ++ [⟨pz,ts,tt,tl,tq,ti,tp,tg⟩]) W3->ho ((?A:Nat->Nat->Act) g cap) W3))=>?main) ?ht
 case main =>
  go_region_law ((refine step_append_lies _ (by rfl) _ _ _ (by rfl) B 57 i0 _ 8 72 Tryz.underlying31 hi uE uw uC rfl (by decide) _ cs.length (cs.flatMap Cm.vs) (by rfl) (fP (Z oe).told ((Below.refl W2.heap.size W2).alloc ya _).drew) (yq W2 0) 1 1 (Cm.vs ⟨pz,ts,tt,tl,tq,ti,tp,tg⟩) (by rfl) rfl (cellsJ rfl _ _) (one_cm _) (by decide) (by unfold maxLen;omega) (by omega) (by show B<=(W2.alloc _).heap.size;rw[zh];omega) (W2.heap.size+1) (by simp) ?_;intro g cap w3 aR uW hat3 hlt3;have y10:=(uW.cell_far (U lV 10) (by show lV<(W2.alloc _).heap.size;rw[zh];omega) hneJ).trans ((((Below.refl W2.heap.size W2).alloc ya _).drew.cell (p:=(U lV 10)) (by show lV < _;omega)).trans hj10);have jv:=(uW.frozen_far (U lV 10) (by show lV<(W2.alloc _).heap.size;rw[zh];omega) hneJ).trans ((World.frozen?_of_block (a:=(U lV 10)) (((Below.refl W2.heap.size W2).alloc ya _).drew.block lV (by omega))).trans hf10)))
  all_goals
   refine Z HT g cap _ ?_;have hkp:Kp lV vt W2 (w3.setCell (U lV 10) (.slice (some (U g 0)) (cs.length+1) cap)):=kp_set (kp_kp (eL ((Below.refl W2.heap.size W2).alloc ya (J (yx pz ts tt tl tq ti tp tg).toArray 57)).drew) ⟨uW.os,uW.tape,uW.output,uW.size,fun k X _ E=>uW.block k X E⟩) _ _;have hbJ:w3.heap[lV]? = W2.heap[lV]?:=(uW.block lV (by show lV<(W2.alloc _).heap.size;rw[zh];omega) hneJ).trans (((Below.refl W2.heap.size W2).alloc ya _).drew.block lV hJ2);refine cg_kp vt (Z oe) hkp (fun b A=>⟨A,?_,?_⟩) (eh (j:=10) (zQ (Z oe).box ?_) (by show 10<13;decide)) (gP ?_) ?_
   ·exact own_typ (Z oe).told A
   ·have:=Z HVL b A;omega
   ·exact hbJ
   ·obtain⟨xr,hc⟩:=(Z oe).typ;exact⟨xr,hbJ.trans hc⟩
   ·have hty:∃xr,w3.heap[lV]? = some (.cells xr 45 (0,0)):=by obtain⟨xr,hc⟩:=(Z oe).typ;exact⟨xr,hbJ.trans hc⟩
    simpa using dT aR (zy aR hty (by decide)) 10 _
 case ht =>
  intro g cap W3 hcg;have aY:=Q hcg;refine Z HK _ _ ?_;clear HK oe xF hcg hj10 hf10 m0 m1 m2 m3 m4 m5 m6 m7 hneJ hJ2 hM2 oB xI uc;obtain ⟨z0,z1,z2,z3,z4,z5,z6,z7,z8,z9,jv,jL,jZ⟩:=q0_13 ((Z aY).box) rfl;have HWG:=Q (fun W hW=>withGroup_any t0 (.slice (some (U b off)) (e0::r).length c) (e0::r) W hW);go_wp2_with fail;refine(Z HWG W3 (ik (gh Ev.len (by have:=Z HLE;omega) (Z aY).rd))).mono ?_;rintro e w4 ⟨rfl,xz⟩;have jw:=Q (cg_below (Z aY) xz);generalize wgT t0 (e0::r)=t1 at HFN |-;clear z0 z1 z2 z3 z4 z5 z6 z7 z8 z9 jv jL jZ aY xz HWG;obtain ⟨z0,z1,z2,z3,z4,z5,z6,z7,z8,z9,jv,jL,jZ⟩:=q0_13 ((Z jw).box) rfl;obtain ⟨f0,f1,f2,f3,f4,f5,f6,f7,f8,f9,f10,cU,f12⟩:=r0_13 ((Z jw).box) rfl;have q0:=Y (Z jw).bkx 0 rfl;have q1:=Y (Z jw).bkx 1 rfl;have hnk:w.heap.size≠lV:=(Z jw).ne;have HC5:Hid (CG lV B C w.heap.size w vt (.slice (some (U b off)) (e0::r).length c) (.slice ba L.length bc) N L (e0::r) [H N,(.slice ba L.length bc),H t1.gr,H t1.ac,H t1.rf,H t1.tr,H t1.vo,H t1.no,H t1.li,H t1.le,(.slice (some (U g 0)) (cs.length+1) cap),H po,H pl] (.slice (some (U g 0)) (cs.length+1) cap) (cs ++ [⟨pz,ts,tt,tl,tq,ti,tp,tg⟩]) ((((((((((w4.setCell (U lV 2) (H t1.gr)).setCell (U lV 3) (H t1.ac)).setCell (U lV 4) (H t1.rf)).setCell (U lV 5) (H t1.tr)).setCell (U lV 6) (H t1.vo)).setCell (U lV 7) (H t1.no)).setCell (U lV 8) (H t1.li)).setCell (U lV 9) (H t1.le)).setCell (U lV 0) (H N)).setCell (U lV 1) ((.slice ba L.length bc)))):=fF (fF (fF (fF (fF (fF (fF (fF (fF (fF (Z jw) 2 (H t1.gr) (by show _ < 13;decide)) 3 (H t1.ac) (by show _ < 13;decide)) 4 (H t1.rf) (by show _ < 13;decide)) 5 (H t1.tr) (by show _ < 13;decide)) 6 (H t1.vo) (by show _ < 13;decide)) 7 (H t1.no) (by show _ < 13;decide)) 8 (H t1.li) (by show _ < 13;decide)) 9 (H t1.le) (by show _ < 13;decide)) 0 (H N) (by show _ < 13;decide)) 1 ((.slice ba L.length bc)) (by show _ < 13;decide);go_wp2_with fail;generalize ((((((((((w4.setCell (U lV 2) (H t1.gr)).setCell (U lV 3) (H t1.ac)).setCell (U lV 4) (H t1.rf)).setCell (U lV 5) (H t1.tr)).setCell (U lV 6) (H t1.vo)).setCell (U lV 7) (H t1.no)).setCell (U lV 8) (H t1.li)).setCell (U lV 9) (H t1.le)).setCell (U lV 0) (H N)).setCell (U lV 1) ((.slice ba L.length bc)))=W5 at HC5 |-;clear z0 z1 z2 z3 z4 z5 z6 z7 z8 z9 jv jL jZ f0 f1 f2 f3 f4 f5 f6 f7 f8 f9 f10 cU f12 q0 q1 jw;have HC5D:=Q (cg_below (Z HC5) (Below.refl W5.heap.size W5).drew);have jL:W5.drew.cell? (U lV 11)=some (H po):=Y (Z HC5D).box 11 rfl;have cU:W5.drew.frozen? (U lV 11)=false:=zc (Z HC5D).box 11 (by show _ < 13;decide);have q1:W5.drew.cell? (yq w 1)=some (.slice ba L.length bc):=Y (Z HC5D).bkx 1 rfl;have HMX:=Q (fun a c=>max_run a c);have cC:∀W,(Builtin.max_ #[3,3] 3 #[H po,H L.length]).run Tryz.prog W = .ok (H ((max po L.length:Nat):Int)) W:=fun W=>Z HMX _ _ W;refine zw 9 (by kernel_rfl) (by kernel_rfl) ?_;simp only[yT,List.take_zero,yU,List.drop_zero]
  repeat still_step
  refine wpStill_nil ?_;generalize max po L.length=po1 at cC HFN |-;have ph:Hid (CG lV B C w.heap.size w vt (.slice (some (U b off)) (e0::r).length c) (.slice ba L.length bc) N L (e0::r) [H N,(.slice ba L.length bc),H t1.gr,H t1.ac,H t1.rf,H t1.tr,H t1.vo,H t1.no,H t1.li,H t1.le,(.slice (some (U g 0)) (cs.length+1) cap),H po1,H pl] (.slice (some (U g 0)) (cs.length+1) cap) (cs ++ [⟨pz,ts,tt,tl,tq,ti,tp,tg⟩]) (W5.setCell (U lV 11) (H po1)).drew):=fF (Z HC5D) 11 (H po1) (by show _ < 13;decide);clear HC5;go_wp2_with fail;generalize (W5.setCell (U lV 11) (H po1)).drew=W6 at ph |-;clear jL cU q1 cC HC5D;generalize Value.tuple #[.agg (yx pz ts tt tl tq ti tp tg).toArray,.bool (zR e0.kind)]=dA;generalize Value.agg (yx pz ts tt tl tq ti tp tg).toArray=dB;generalize Value.bool (zR e0.kind)=dC;generalize Value.agg (yv e0.kind e0.cmd.k e0.cmd.s e0.cmd.t e0.cmd.l e0.cmd.q e0.cmd.i e0.cmd.p e0.cmd.g e0.id e0.other e0.qty e0.price e0.reason).toArray=dD;generalize Value.agg #[H t0.gr,H t0.ac,H t0.rf,H t0.tr,H t0.vo,H t0.no,H t0.li,H t0.le]=dE;generalize Value.agg #[H t1.gr,H t1.ac,H t1.rf,H t1.tr,H t1.vo,H t1.no,H t1.li,H t1.le]=dF;have hJ6:=(Z ph).jl;have dx:=(Z ph).kl;have zJ:W6.cell? (U lV 12)=some (H pl):=Y (Z ph).box 12 rfl;have fJ:W6.frozen? (U lV 12)=false:=zc (Z ph).box 12 (by show _ < 13;decide);have qA:W6.cell? (yq w 0)=some (H N):=Y (Z ph).bkx 0 rfl;have qB:W6.cell? (yq w 1)=some (.slice ba L.length bc):=Y (Z ph).bkx 1 rfl;have oF:Hid (∀V,yn W6 V->RdR Od.vs 6 V (.slice ba L.length bc) L):=fun V hV=>zP (zK (Z ph).row hV) (by have:=(Z qM).len;omega);have HLB:Hid (∀o∈L,0<=o.left/\o.left<=1000000):=fun o K=>by have:=(Z qM).left o K;omega
  have HSX:Hid (∀V sd,yn W6 V->(sd=1\/sd=2)->Calls Tryz.prog 77 #[.agg #[H N,.slice ba L.length bc],H sd] V fun e w'=>∃b,e=ym (sdV sd b)/\TrA L sd w' b/\(∀b',TrA L 1 V b'->TrA L 1 w' b')/\yn W6 w'):=fun V sd hV vh=>by
   rcases vh with rfl|rfl
   ·exact(lz N _ L V (Z oF V hV) (Z qM).len (Z HLB)).mono fun e w' ⟨b,D,E,_,h4⟩=>⟨b,D,E,fun b' cj=>zH cj (h4.block b' (zZ cj)),hV.trans (h4.mono hV.size)⟩
   ·exact(ln N 2 (by decide) _ L V (Z oF V hV) (Z qM).len (Z HLB)).mono fun e w' ⟨b,D,E,_,h4⟩=>⟨b,D,E,fun b' cj=>zH (show dQ 249 true V b' 1 (zB L 1) from cj) (h4.block b' (zZ (show dQ 249 true V b' 1 (zB L 1) from cj))),hV.trans (h4.mono hV.size)⟩
  have HCT:Hid (∀V b1 b2,yn W6 V->TrA L 1 V b1->TrA L 2 V b2->Calls Tryz.prog 76 #[sdV 1 b1,sdV 2 b2] V fun e w'=>e=ym (H (nlev L))/\yn W6 w'):=fun V b1 b2 hV D E=>by
   refine(lO b1 b2 1 2 _ _ V D E (yN (List.length_filter_le _ _) (Z qM).len) (yN (List.length_filter_le _ _) (Z qM).len)).mono fun e w' ⟨h3,h4⟩=>⟨?_,hV.trans (h4.mono hV.size)⟩;rw[h3,dX,dX,List.length_map,List.length_map];have:=nlev_eq (Z bT) (gz true _) (gz false _);rw[this];simp
  have cC:∀W,(Builtin.max_ #[3,3] 3 #[H pl,H (nlev L)]).run Tryz.prog W = .ok (H ((max pl (nlev L):Nat):Int)) W:=fun W=>Z HMX _ _ W;generalize max pl (nlev L)=pl1 at cC HFN;generalize nlev L=nl at cC HCT;have hbD:yn W6 W6.drew:=(Below.refl _ _).drew;clear hbD;have hbD:Hid (yn W6 W6.drew):=(Below.refl _ _).drew
  go_region_with (first|(go_at_call 77;refine(Z HSX _ _ (by first|exact hq|exact Z hbD) (by decide)).mono ?_;rintro e w7 ⟨b1,rfl,ht1,hkp,hq⟩;have zE:=(hq.cell (p:=(U lV 12)) hJ6).trans zJ;have fE:=(World.frozen?_of_block (a:=(U lV 12)) (hq.block lV hJ6)).trans fJ;have q0E:=(hq.cell (p:=(yq w 0)) dx).trans qA;have q1E:=(hq.cell (p:=(yq w 1)) dx).trans qB)|(go_at_call 76;refine(Z HCT _ _ _ hq (hkp _ (by assumption)) ht1).mono ?_;rintro e w9 ⟨rfl,hq⟩;have zG:=(hq.cell (p:=(U lV 12)) hJ6).trans zJ;have fG:=(World.frozen?_of_block (a:=(U lV 12)) (hq.block lV hJ6)).trans fJ;have q0G:=(hq.cell (p:=(yq w 0)) dx).trans qA;have q1G:=(hq.cell (p:=(yq w 1)) dx).trans qB))
  all_goals
   go_end0;have hc:=fF (cg_below (Z ph) hq) 12 (H pl1) (by show _ < 13;decide);exact⟨rfl,_,Z HFN _ _ hc.box hc.typ hc.row (by simpa using hc.told),hc.kp⟩
theorem iL (v:Value)(l:List Int)(w:World)(hr:Rd w v l)(xC:dR v)(A:Bts l)(hE:ErrT w) :
  Calls Tryz.prog 7 #[v] w fun e w'=>e=ym (jdV l)/\yn w w':=by
 obtain⟨a,c,rfl⟩:=eb hr;have hlm:l.length<=1073741824:=by obtain⟨_,_,_,h,_⟩:=hr;exact h
 obtain⟨xA,HX⟩:=lY w [.bool false,H 0,H 0] 24;have HB:=Q xA;have kt:w.heap.size<(w.alloc (J #[.bool false,H 0,H 0] 24)).heap.size:=by simp
 by_cases hl:65536<l.length
 ·have HD:Hid (jdV l = .tuple #[.agg #[.bool false,H 0,H 0],H 2]):=if_pos hl;rw[Z HD];have kQ:((65536:Int)<l.length):=by omega
  clear hr xC A hE xA;go_enter Tryz.func7,Tryz.ntmps7;go_wp2_with fail;have d:=Z HX;exact bodyPost_ret (by simp[results,Tryz.results7,go_sem,Y d 0 rfl,Y d 1 rfl,Y d 2 rfl];try rfl) rfl ⟨rfl,Z HB⟩
 ·have HD:Hid (jdV l = .tuple #[vdV (judJ l).2,H 0]):=if_neg hl;rw[Z HD];have kQ:¬ ((65536:Int)<l.length):=by omega
  have kD:=Q (judgeTape_any jgClose_any _ l _ (zN hr xA ya) xC A (by omega) (zY hE xA ya));clear hr xC A hE xA;unfold JtE jgV vdV at kD;unfold vdV;generalize judJ l=JJ at kD |-;obtain⟨cs,x,r⟩:=JJ;simp only at kD |-;go_enter Tryz.func7,Tryz.ntmps7;go_wp2_with fail;generalize (w.alloc (J #[.bool false,H 0,H 0] 24))=W0 at HX HB kt kD |-;refine(Z kD).mono ?_;rintro e w1 ⟨vq,vt,rfl,xS,pL,xR⟩;obtain⟨qa,qc,rfl⟩:=fI xS;obtain⟨ta,tc,rfl⟩:=fI pL;have uh:=Q (zf (Z HX) xR kt);have ud:=Q (lW (Z HB) xR);have xI:w.heap.size<w1.heap.size:=yJ kt xR.size;obtain ⟨z0,z1,z2⟩:=q0_3 (Z uh) rfl;obtain ⟨f0,f1,f2⟩:=r0_3 (Z uh) rfl;have xt:=Q (zk (us:=[.bool (decide (r=0)),H x,H r]) (Z uh) rfl);have vB:=Q (zg w.heap.size ya [.bool (decide (r=0)),H x,H r] 0 _ (Z ud));have HSF:Hid (w1.heap.size<=(w1.setCells w.heap.size 0 [.bool (decide (r=0)),H x,H r]).heap.size):=(zg w.heap.size ya [.bool (decide (r=0)),H x,H r] 0 w1 (Below.refl _ w1)).size;clear xS pL xR kD HX HB;go_wp2_with fail;rw[set3];generalize w1.setCells w.heap.size 0 [.bool (decide (r=0)),H x,H r]=WF at xt vB HSF |-;have d:=zf (Z xt) (((Below.refl WF.heap.size WF).alloc ya (J #[H (runS cs).n,.slice qa (runS cs).l.length qc,H (runS cs).t.gr,H (runS cs).t.ac,H (runS cs).t.rf,H (runS cs).t.tr,H (runS cs).t.vo,H (runS cs).t.no,H (runS cs).t.li,H (runS cs).t.le,.slice ta cs.length tc,H (pkO cs),H (pkL cs)] 45)).alloc (by simp) (J #[.bool (decide (r=0)),H x,H r] 24)) (yJ xI (Z HSF));have hbf:=(((Z vB).alloc (Z vB).size (J #[H (runS cs).n,.slice qa (runS cs).l.length qc,H (runS cs).t.gr,H (runS cs).t.ac,H (runS cs).t.rf,H (runS cs).t.tr,H (runS cs).t.vo,H (runS cs).t.no,H (runS cs).t.li,H (runS cs).t.le,.slice ta cs.length tc,H (pkO cs),H (pkL cs)] 45)).alloc (by have:=(Z vB).size;simp;omega) (J #[.bool (decide (r=0)),H x,H r] 24));exact bodyPost_ret (by simp[results,Tryz.results7,go_sem,Y d 0 rfl,Y d 1 rfl,Y d 2 rfl];try rfl) rfl ⟨rfl,hbf⟩
theorem gT (v:Value)(l:List Int)(w:World)(hr:Rd w v l) :
  Calls Tryz.prog 9 #[v] w fun e w'=>∃v',e=ym v'/\OwnT w.heap.size w' v' l/\yn w w':=by
 obtain⟨a,cap,rfl,hl,hc⟩:=hr;obtain⟨i0,hi,uE,uw,uC⟩:=info_parts Tryz.infoByte
 have xp:∀k,k<l.length->∃b off,a=some (U b off)/\b<w.heap.size/\w.cell? (U b (off+k))=some (.int .u8 (l.getD k 0)):=by
  intro k X;obtain⟨b,off,D,E⟩:=hc (by intro h;rw[h] at X;simp at X);exact⟨b,off,D,yK w _ (E k X),E k X⟩
 have HC:=Q xp;clear xp hc;go_enter Tryz.func9,Tryz.ntmps9;go_wp2_with (at_make;go_must (refine wpList_make_full _ rfl _ _ 22 rfl w.heap.size 5 i0 (.int .u8 0) 1 Tryz.underlying22 hi uE uw _ _ _ _ l.length rfl rfl rfl rfl (by rw[uC];omega) (by unfold maxLen;omega) ya ?_);intro w1 xL oR);have HA:=Q (arr_made xL oR);clear xL oR;go_loopw [4] (fun i wr=>∃k:Nat,k<=l.length/\i=H k/\Arr l.length w.heap.size w wr (l.take k)) (fun i _=>l.length-(intOf i).toNat)
 case atStart=>exact⟨0,Nat.zero_le _,rfl,by simpa using Z HA⟩
 case round =>
  obtain⟨k,X,rfl,jW⟩:=hrel
  by_cases xH:k<l.length
  ·obtain⟨b,off,rfl,A,xm⟩:=Z HC k xH;have uq:(k:Int)<l.length:=by omega
   have bx:=(jW.below.cell (p:=(U b (off+k))) A).trans xm;obtain⟨v0,hv0⟩:=jW.some xH;have hf0:=jW.free k;have jR:=arr_step (l.getD k 0) jW (by rw[List.length_take];omega);rw[<- take_get l k xH,show(l.take k).length=k by rw[List.length_take];omega] at jR;have HS:=Q jR;clear jR jW xm A;generalize l.getD k 0=x at *;go_wp2_with fail;go_roundw
   case rel=>exact⟨k+1,by omega,by go_num,Z HS⟩
   case measure=>simp[intOf];omega
  ·go_wp2_with fail;go_ret;rw[yZ (by omega)] at jW;exact⟨_,rfl,arr_own jW rfl hl,jW.below⟩
theorem lC (va vb:Value)(l:List Int)(w:World)(ha:Rd w va l)(A:Rd w vb l) :
  Calls Tryz.prog 11 #[va,vb] w fun e w'=>e=ym (.bool true)/\∃n,w'=w.drewN n:=by
 obtain⟨aa,ca,rfl,hl,hca⟩:=ha;obtain⟨ab,cb,rfl,_,hcb⟩:=A
 by_cases xy:l = []
 ·subst xy;clear hca hcb;go_enter Tryz.func11,Tryz.ntmps11;go_wp2;refine wp_loop_rounds 1 ?_;rw[rounds_succ];go_wp2;go_ret;exact⟨rfl,0,rfl⟩
 obtain⟨b1,o1,rfl,qV⟩:=hca xy;obtain⟨b2,o2,rfl,hc2⟩:=hcb xy;have H1:=Q qV;have H2:=Q hc2;clear hca hcb qV hc2;go_enter Tryz.func11,Tryz.ntmps11;go_wp2_with fail;go_loopw [5] (fun i wr=>∃k n:Nat,k<=l.length/\i=H k/\wr=w.drewN n) (fun i _=>l.length-(intOf i).toNat)
 case atStart=>exact⟨0,0,Nat.zero_le _,rfl,rfl⟩
 case round =>
  obtain⟨k,n,X,rfl,rfl⟩:=hrel
  by_cases xH:k<l.length
  ·have D:=Z H1 k xH;have E:=Z H2 k xH;generalize l.getD k 0=x at D E;have uq:(k:Int)<l.length:=by omega
   go_wp2_with fail;go_quiet (fail);go_wp2_with fail;go_roundw
   case rel=>exact⟨k+1,_,by omega,by go_num,rfl⟩
   case measure=>simp[intOf];omega
  ·go_wp2_with fail;go_ret;exact⟨rfl,_,rfl⟩
theorem eqVerdict_same (vb:Bool)(vx vr:Int)(w:World):Calls Tryz.prog 10 #[.agg #[.bool vb,H vx,H vr],.agg #[.bool vb,H vx,H vr]] w fun e w'=>e=ym (.bool true)/\yn w w':=by
 have A:yn w ((w.alloc (J #[.bool vb,H vx,H vr] 24)).alloc (J #[.bool vb,H vx,H vr] 24)):=(lT _ _).alloc (by simp) _;have HB:=Q A;have D:(vx != vx)=false:=by simp
 have E:(vr != vr)=false:=by simp
 have h3:(vb != vb)=false:=by simp
 clear A;go_enter Tryz.func10,Tryz.ntmps10;go_wp2_with fail;go_ret;exact⟨rfl,Z HB⟩
theorem jdV_is (l:List Int):∃vb vx vr vc,jdV l = .tuple #[.agg #[.bool vb,H vx,H vr],H vc]:=by
 unfold jdV vdV;split
 ·exact⟨_,_,_,_,rfl⟩
 ·exact⟨_,_,_,_,rfl⟩
theorem exactJud (v:Value)(l:List Int)(w:World)(hr:Rd w v l)(A:Bts l)(hl:l.length<=1048576)(hE:ErrT w) :
  Calls Tryz.prog 4 #[v] w fun e w'=>e=ym (.bool true)/\yn w w':=by
 have HR:=Q hr;have HE:=Q hE;have HB:=Q A;obtain⟨a,cap,rfl⟩:=eb hr;clear hr hE A;have kQ:(l.length:Int)<=1048576:=by omega
 have HS:=Q (fun v w h E=>iN v l w h E (Z HB));have HI:=Q (fun v w h E h3=>iL v l w h E (Z HB) h3);obtain⟨vb,vx,vr,vc,hjd⟩:=jdV_is l;rw[hjd] at HS HI;have HQ:=Q (fun W=>eqVerdict_same vb vx vr W);clear hjd;go_enter Tryz.func4,Tryz.ntmps4;go_wp2_with fail;refine(gT _ l _ (Z HR)).mono ?_;rintro e w1 ⟨v1,rfl,jQ,xR⟩;have kw:=Q (Z HS v1 w1 (eI jQ.own) (fL jQ));have B1:=Q xR;have R1:=Q (zN (Z HR) xR ya);clear jQ xR;go_wp2_with fail;refine(Z kw).mono ?_;rintro e w2 ⟨rfl,xE⟩;have xN:=lT w2 (J #[.bool vb,H vx,H vr] 24);have X3:Hid (Bx (w2.alloc (J #[.bool vb,H vx,H vr] 24)) w2.heap.size [.bool vb,H vx,H vr]):=zj w2 [.bool vb,H vx,H vr] 24;have B3:=Q ((lW (Z B1) xE).trans (xN.mono (yN (Z B1).size xE.size)));have R3:=Q (zN (zN (Z R1) xE ya) xN ya);have Z3:Hid (w2.heap.size<(w2.alloc (J #[.bool vb,H vx,H vr] 24)).heap.size):=by show _ < _;simp
 clear xE xN kw R1 B1;go_wp2_with fail;generalize (w2.alloc (J #[.bool vb,H vx,H vr] 24))=W3 at X3 B3 R3 Z3 |-;refine(gT _ l _ (Z R3)).mono ?_;rintro e w4 ⟨v2,rfl,cE,xz⟩;have HE4:=Q (zY (zY (Z HE) (Z B3) ya) xz ya);have HII:=Q (Z HI v2 w4 (eI cE.own) (fL cE) (Z HE4));have X4:=Q (zf (Z X3) xz (Z Z3));have B4:=Q (lW (Z B3) xz);have R4:=Q (zN (Z R3) xz ya);have O4:=Q cE;have Z4:=Q (yJ (Z Z3) xz.size);clear cE xz X3 B3 R3 Z3 HE4;go_wp2_with fail;refine(Z HII).mono ?_;rintro e w5 ⟨rfl,xX⟩;have vN:=lT w5 (J #[.bool vb,H vx,H vr] 24);have Y6:Hid (Bx (w5.alloc (J #[.bool vb,H vx,H vr] 24)) w5.heap.size [.bool vb,H vx,H vr]):=zj w5 [.bool vb,H vx,H vr] 24;have z5:=yJ (Z Z4) xX.size;have X6:=Q (zf (zf (Z X4) xX (Z Z4)) vN z5);have B6:=Q ((lW (Z B4) xX).trans (vN.mono (yN (Z B4).size xX.size)));have R6:=Q (zN (zN (Z R4) xX ya) vN ya);have O6:=Q (gd (gd (Z O4).own xX ya) vN ya);clear xX vN HII X4 B4 R4 O4 Z4;obtain ⟨y0,y1,y2⟩:=q0_3 (Z Y6) rfl;obtain ⟨x0,x1,x2⟩:=q0_3 (Z X6) rfl;go_wp2_with fail;clear x0 y0 x1 y1 x2 y2;generalize (w5.alloc (J #[.bool vb,H vx,H vr] 24))=W6 at Y6 X6 B6 R6 O6 |-;refine(Z HQ _).mono ?_;rintro e w7 ⟨rfl,qQ⟩;have B7:=Q (lW (Z B6) qQ);have R7:=Q (zN (Z R6) qQ ya);have O7:=Q (gd (Z O6) qQ ya);clear qQ Y6 X6 B6 R6 O6;go_wp2_with fail;refine(gT _ l _ (Z R7)).mono ?_;rintro e w8 ⟨v3,rfl,ho8,hb8⟩;have pk:=Q (lC v2 v3 l w8 (eI (gd (Z O7) hb8 ya)) (eI ho8.own));have B8:=Q (lW (Z B7) hb8);clear ho8 hb8;go_wp2_with fail;refine(Z pk).mono ?_;rintro e w9 ⟨rfl,n9,rfl⟩;go_wp2_with fail;go_ret;exact⟨rfl,zp (Z B8) n9⟩
theorem lawJud (a:Option Addr)(len cap:Nat)(zs:List Int)(w:World)
  (h:(a=none/\len=0/\cap=0/\zs = []) \/ ∃x,a=some x/\len<=cap/\cap<=maxLen/\zs.length=cap/\(∀i,i<zs.length->w.cell? (x.add i)=some (.int .u8 (zs.getD i 0)))/\∀n∈zs,(Lit.int .u8 n).wf=true) (hE:ErrT w) :
  Calls Tryz.prog 4 #[.slice a len cap] w fun e w'=>e=ym (.bool true)/\yn w w':=by
 by_cases hl:len<=1048576
 ·obtain⟨D,E,h3⟩:=rd_of_row h (by omega);exact exactJud _ _ w E h3 (by omega) hE
 ·have kQ:(1048576:Int)<len:=by omega
  clear h hE;go_enter Tryz.func4,Tryz.ntmps4;go_wp2_with fail;go_ret;exact⟨rfl,Below.refl _ _⟩
theorem own3 {B:Nat}(W:World)(hB:B<=W.heap.size):(W.alloc (J #[.int .u8 84,.int .u8 74,.int .u8 49] 5)).ownsRow B 5 1 (.slice (some (U W.heap.size 0)) 3 3) 3 [.int .u8 84,.int .u8 74,.int .u8 49]:=
 ⟨rfl,.inr ⟨W.heap.size,3,_,rfl,hB,heap_alloc_new W _,Nat.le_refl _,by decide,rfl,rfl⟩⟩
theorem own3_row {B:Nat}{W:World}{v:Value}{l:List Int}(hl:l.length<=60000)(h:W.ownsRow B 5 1 v (3+l.length) ([.int .u8 84,.int .u8 74,.int .u8 49]++l.map (Value.int .u8))):OwnT B W v (84::74::49::l):=by
 refine ownT_row (by simp) (by simp;omega) ?_;have e:3+l.length=(84::74::49::l:List Int).length:=by simp;omega
 rw[e] at h;exact h
theorem one_u8 (l:List Int):∀u∈l.map (Value.int .u8),u.oneCell'=true:=fun u hu=>by
 obtain⟨x,_,rfl⟩:=List.mem_map.1 hu;rfl
theorem bts3 {l:List Int}(h:Bts l):Bts (84::74::49::l):=fun x hx=>by
 rcases List.mem_cons.1 hx with rfl|hx
 ·decide
 rcases List.mem_cons.1 hx with rfl|hx
 ·decide
 rcases List.mem_cons.1 hx with rfl|hx
 ·decide
 exact h x hx
theorem any_some (x:Addr)(cap:Nat)(l:List Int)(w:World)(hx:∀W,yn w W->∀j u,(l.map (Value.int .u8))[j]? = some u->W.cell? (x.add j)=some u)(hr:Rd w (.slice (some x) l.length cap) l)(hc:dR (.slice (some x) l.length cap))(A:Bts l)(hl:l.length<=60000)(hE:ErrT w) :
  Calls Tryz.prog 3 #[(.slice (some x) l.length cap)] w fun e w'=>e=ym (.bool true)/\yn w w':=by
 obtain⟨i0,hi,uE,uw,uC⟩:=info_parts Tryz.infoByte;have HX:=Q hx;clear hx;have kQ:¬ ((60000:Int)<l.length):=by omega
 have HS:=Q (fun W (h:yn w W)=>iN (.slice (some x) l.length cap) l W (zN hr h ya) hc A);have HI:=Q (fun W (h:yn w W)=>iL (.slice (some x) l.length cap) l W (zN hr h ya) hc A (zY hE h ya));have vL:=Q (fun v W (h:OwnT w.heap.size W v (84::74::49::l))=>iN v _ W (eI h.own) (fL h) (bts3 A));have HI2:=Q (fun v W (h:OwnT w.heap.size W v (84::74::49::l)) (hw:yn w W)=>iL v _ W (eI h.own) (fL h) (bts3 A) (zY hE hw ya));obtain⟨pb,px,pr,pc,hjd⟩:=jdV_is l;obtain⟨qb,qx,qr,qc,hjd2⟩:=jdV_is (84::74::49::l);rw[hjd] at HS HI;rw[hjd2] at vL HI2;clear hjd hjd2 hr hc A hE;go_enter Tryz.func3,Tryz.ntmps3;go_wp2_with fail;refine(Z HI w (Below.refl _ _)).mono ?_;rintro e w1 ⟨rfl,xR⟩;have X1:=Q (zj w1 [.bool pb,H px,H pr] 24);have B1:Hid (yn w (w1.alloc (J #[.bool pb,H px,H pr] 24))):=xR.alloc xR.size _;have Z1:Hid (w1.heap.size<(w1.alloc (J #[.bool pb,H px,H pr] 24)).heap.size):=by show _ < _;simp
 clear xR HI;go_wp2_with fail;generalize (w1.alloc (J #[.bool pb,H px,H pr] 24))=W1 at X1 B1 Z1 |-;generalize w1.heap.size=b1 at X1 Z1 |-;refine(Z HS _ (Z B1)).mono ?_;rintro e w2 ⟨rfl,xE⟩;have z2:=yJ (Z Z1) xE.size;obtain⟨oC,Y2⟩:=lY w2 [.bool pb,H px,H pr] 24;have X2:=Q (zf (zf (Z X1) xE (Z Z1)) oC z2);have B2:Hid (yn w (w2.alloc (J #[.bool pb,H px,H pr] 24))):=(lW (Z B1) xE).trans (oC.mono (yN (Z B1).size xE.size));have uc:=zh w2 (J #[.bool pb,H px,H pr] 24);have Z2:Hid (b1<w2.heap.size):=z2;clear z2 xE oC X1 B1 Z1 HS
 have HO:Hid (((w2.alloc (J #[.bool pb,H px,H pr] 24)).alloc (J #[.int .u8 84,.int .u8 74,.int .u8 49] 5)).ownsRow w.heap.size 5 1 (.slice (some (U (w2.heap.size+1) 0)) 3 3) 3 [.int .u8 84,.int .u8 74,.int .u8 49]):=by
  have:=own3 (B:=w.heap.size) (w2.alloc (J #[.bool pb,H px,H pr] 24)) (Z B2).size;rwa[uc] at this
 have X:Below (w2.alloc (J #[.bool pb,H px,H pr] 24)).heap.size (w2.alloc (J #[.bool pb,H px,H pr] 24)) ((w2.alloc (J #[.bool pb,H px,H pr] 24)).alloc (J #[.int .u8 84,.int .u8 74,.int .u8 49] 5)):=lT _ _;have HC:=Q (Z HX _ (lW (Z B2) X));have HK:=Q X;have aL:w.heap.size<=((w2.alloc (J #[.bool pb,H px,H pr] 24)).alloc (J #[.int .u8 84,.int .u8 74,.int .u8 49] 5)).heap.size:=yN (Z B2).size X.size;clear X;go_wp2_with (at_builtin;go_must (refine wpList_append_own _ rfl _ _ 22 rfl w.heap.size 5 i0 _ 1 1 Tryz.underlying22 hi uE uw uC rfl (by decide) _ 3 [.int .u8 84,.int .u8 74,.int .u8 49] rfl (Z HO) x l.length cap (l.map (Value.int .u8)) rfl (by simp) (Z HC) (one_u8 _) (by unfold maxLen;omega) (by omega) aL ?_);intro v5 w5 xL M _);have hd:Below (w2.alloc (J #[.bool pb,H px,H pr] 24)).heap.size (w2.alloc (J #[.bool pb,H px,H pr] 24)) w5:=(Z HK).trans (fZ M (fun g e=>by have e2:w2.heap.size+1=g:=Option.some.inj e;rw[uc];omega) (Z HK).size)
 have O5:Hid (OwnT w.heap.size w5 v5 (84::74::49::l)):=own3_row hl xL;have X5:=Q (zf (Z X2) hd (by rw[uc];have:=Z Z2;omega));have Y5:=Q (zf (Z Y2) hd (by rw[uc];have:=Z Z2;omega));have B5:=Q (lW (Z B2) hd);have Z5:Hid (b1<w2.heap.size/\w2.heap.size<w5.heap.size):=by have:=Z Z2;have:=hd.size;rw[uc] at this;refine⟨?_,?_⟩ <;> omega
 clear hd uc X2 Y2 B2 Z2;generalize w2.heap.size=b2 at X5 Y5 Z5 |-;refine(Z HI2 v5 w5 (Z O5) (Z B5)).mono ?_;rintro e w6 ⟨rfl,vN⟩;obtain⟨dx,U6⟩:=lY w6 [.bool qb,H qx,H qr] 24;have X6:=Q (zf (zf (Z X5) vN (by have:=Z Z5;omega)) dx (by have:=Z Z5;have:=vN.size;omega));have Y6:=Q (zf (zf (Z Y5) vN (Z Z5).2) dx (by have:=Z Z5;have:=vN.size;omega));have B6:Hid (yn w (w6.alloc (J #[.bool qb,H qx,H qr] 24))):=(lW (Z B5) vN).trans (dx.mono (yN (Z B5).size vN.size));have cH:=zh w6 (J #[.bool qb,H qx,H qr] 24);have Z6:Hid (b1<b2/\b2<w6.heap.size):=⟨(Z Z5).1,by have:=Z Z5;have:=vN.size;omega⟩;clear vN dx X5 Y5 B5 O5 Z5 HI2
 have HO:Hid (((w6.alloc (J #[.bool qb,H qx,H qr] 24)).alloc (J #[.int .u8 84,.int .u8 74,.int .u8 49] 5)).ownsRow w.heap.size 5 1 (.slice (some (U (w6.heap.size+1) 0)) 3 3) 3 [.int .u8 84,.int .u8 74,.int .u8 49]):=by
  have:=own3 (B:=w.heap.size) (w6.alloc (J #[.bool qb,H qx,H qr] 24)) (Z B6).size;rwa[cH] at this
 have X:Below (w6.alloc (J #[.bool qb,H qx,H qr] 24)).heap.size (w6.alloc (J #[.bool qb,H qx,H qr] 24)) ((w6.alloc (J #[.bool qb,H qx,H qr] 24)).alloc (J #[.int .u8 84,.int .u8 74,.int .u8 49] 5)):=lT _ _;have HC:=Q (Z HX _ (lW (Z B6) X));have HK:=Q X;have aL:w.heap.size<=((w6.alloc (J #[.bool qb,H qx,H qr] 24)).alloc (J #[.int .u8 84,.int .u8 74,.int .u8 49] 5)).heap.size:=yN (Z B6).size X.size;clear X;go_wp2_with (at_builtin;go_must (refine wpList_append_own _ rfl _ _ 22 rfl w.heap.size 5 i0 _ 1 1 Tryz.underlying22 hi uE uw uC rfl (by decide) _ 3 [.int .u8 84,.int .u8 74,.int .u8 49] rfl (Z HO) x l.length cap (l.map (Value.int .u8)) rfl (by simp) (Z HC) (one_u8 _) (by unfold maxLen;omega) (by omega) aL ?_);intro v8 w8 xL M _);have hd:Below (w6.alloc (J #[.bool qb,H qx,H qr] 24)).heap.size (w6.alloc (J #[.bool qb,H qx,H qr] 24)) w8:=(Z HK).trans (fZ M (fun g e=>by have e2:w6.heap.size+1=g:=Option.some.inj e;rw[cH];omega) (Z HK).size)
 have O8:Hid (OwnT w.heap.size w8 v8 (84::74::49::l)):=own3_row hl xL;have X8:=Q (zf (Z X6) hd (by rw[cH];have:=Z Z6;omega));have Y8:=Q (zf (Z Y6) hd (by rw[cH];have:=Z Z6;omega));have U8:=Q (zf (Z U6) hd (by rw[cH];have:=Z Z6;omega));have B8:=Q (lW (Z B6) hd);have Z8:Hid (b1<b2/\b2<w6.heap.size/\w6.heap.size<w8.heap.size):=by have:=Z Z6;have:=hd.size;rw[cH] at this;refine⟨?_,?_,?_⟩ <;> omega
 clear hd cH X6 Y6 U6 B6 Z6;generalize w6.heap.size=b6 at X8 Y8 U8 Z8 |-;refine(Z vL v8 w8 (Z O8)).mono ?_;rintro e w9 ⟨rfl,jk⟩;have qE:=lT w9 (J #[.bool qb,H qx,H qr] 24);have z9:=jk.size;have X9:=Q (zf (zf (Z X8) jk (by have:=Z Z8;omega)) qE (by have:=Z Z8;omega));have Y9:=Q (zf (zf (Z Y8) jk (by have:=Z Z8;omega)) qE (by have:=Z Z8;omega));have U9:=Q (zf (zf (Z U8) jk (by have:=Z Z8;omega)) qE (by have:=Z Z8;omega));have T9:=Q (zj w9 [.bool qb,H qx,H qr] 24);have B9:Hid (yn w (w9.alloc (J #[.bool qb,H qx,H qr] 24))):=(lW (Z B8) jk).trans (qE.mono (yN (Z B8).size z9));clear jk qE z9 X8 Y8 U8 B8 O8 Z8;obtain ⟨x0,x1,x2⟩:=q0_3 (Z X9) rfl;obtain ⟨y0,y1,y2⟩:=q0_3 (Z Y9) rfl;obtain ⟨u0,u1,u2⟩:=q0_3 (Z U9) rfl;obtain ⟨t0,t1,t2⟩:=q0_3 (Z T9) rfl;have e1:(pc==pc)=true:=by simp
 have e2:(qc==qc)=true:=by simp
 have e3:(px==px)=true:=by simp
 have e4:(pr==pr)=true:=by simp
 have e5:(pb==pb)=true:=by simp
 have e6:(qx==qx)=true:=by simp
 have e7:(qr==qr)=true:=by simp
 have e8:(qb==qb)=true:=by simp
 go_wp2_with fail;go_ret;exact⟨rfl,Z B9⟩
theorem any_none (w:World)(hr:Rd w (.slice none 0 0) [])(hc:dR (.slice none 0 0))(hE:ErrT w) :
  Calls Tryz.prog 3 #[(.slice none 0 0)] w fun e w'=>e=ym (.bool true)/\yn w w':=by
 obtain⟨i0,hi,uE,uw,uC⟩:=info_parts Tryz.infoByte;have A:Bts []:=fun x hx=>by cases hx
 have HS:=Q (fun W (h:yn w W)=>iN (.slice none 0 0) [] W (zN hr h ya) hc A);have HI:=Q (fun W (h:yn w W)=>iL (.slice none 0 0) [] W (zN hr h ya) hc A (zY hE h ya));have vL:=Q (fun v W (h:OwnT w.heap.size W v [84,74,49])=>iN v _ W (eI h.own) (fL h) (bts3 A));have HI2:=Q (fun v W (h:OwnT w.heap.size W v [84,74,49]) (hw:yn w W)=>iL v _ W (eI h.own) (fL h) (bts3 A) (zY hE hw ya));obtain⟨pb,px,pr,pc,hjd⟩:=jdV_is [];obtain⟨qb,qx,qr,qc,hjd2⟩:=jdV_is [84,74,49];rw[hjd] at HS HI;rw[hjd2] at vL HI2;clear hjd hjd2 hr hc A hE;go_enter Tryz.func3,Tryz.ntmps3;go_wp2_with fail;refine(Z HI w (Below.refl _ _)).mono ?_;rintro e w1 ⟨rfl,xR⟩;have X1:=Q (zj w1 [.bool pb,H px,H pr] 24);have B1:Hid (yn w (w1.alloc (J #[.bool pb,H px,H pr] 24))):=xR.alloc xR.size _;have Z1:Hid (w1.heap.size<(w1.alloc (J #[.bool pb,H px,H pr] 24)).heap.size):=by show _ < _;simp
 clear xR HI;go_wp2_with fail;generalize (w1.alloc (J #[.bool pb,H px,H pr] 24))=W1 at X1 B1 Z1 |-;generalize w1.heap.size=b1 at X1 Z1 |-;refine(Z HS _ (Z B1)).mono ?_;rintro e w2 ⟨rfl,xE⟩;have z2:=yJ (Z Z1) xE.size;obtain⟨oC,Y2⟩:=lY w2 [.bool pb,H px,H pr] 24;have X2:=Q (zf (zf (Z X1) xE (Z Z1)) oC z2);have B2:Hid (yn w (w2.alloc (J #[.bool pb,H px,H pr] 24))):=(lW (Z B1) xE).trans (oC.mono (yN (Z B1).size xE.size));have uc:=zh w2 (J #[.bool pb,H px,H pr] 24);have Z2:Hid (b1<w2.heap.size):=z2;clear z2 xE oC X1 B1 Z1 HS
 have HO:Hid (((w2.alloc (J #[.bool pb,H px,H pr] 24)).alloc (J #[.int .u8 84,.int .u8 74,.int .u8 49] 5)).ownsRow w.heap.size 5 1 (.slice (some (U (w2.heap.size+1) 0)) 3 3) 3 [.int .u8 84,.int .u8 74,.int .u8 49]):=by
  have:=own3 (B:=w.heap.size) (w2.alloc (J #[.bool pb,H px,H pr] 24)) (Z B2).size;rwa[uc] at this
 have X:Below (w2.alloc (J #[.bool pb,H px,H pr] 24)).heap.size (w2.alloc (J #[.bool pb,H px,H pr] 24)) ((w2.alloc (J #[.bool pb,H px,H pr] 24)).alloc (J #[.int .u8 84,.int .u8 74,.int .u8 49] 5)):=lT _ _;have O5:Hid (OwnT w.heap.size ((w2.alloc (J #[.bool pb,H px,H pr] 24)).alloc (J #[.int .u8 84,.int .u8 74,.int .u8 49] 5)) (.slice (some (U (w2.heap.size+1) 0)) 3 3) [84,74,49]):=own3_row (l:=[]) (by decide) (Z HO);have HD:=Q X;clear X;go_wp2_with (at_builtin;go_must (refine wpList_append_own_none rfl _ _ 22 rfl w.heap.size 5 i0 1 Tryz.underlying22 hi _ 3 [.int .u8 84,.int .u8 74,.int .u8 49] rfl (Z HO) rfl ?_));have hd:=Z HD;clear HO;generalize ((w2.alloc (J #[.bool pb,H px,H pr] 24)).alloc (J #[.int .u8 84,.int .u8 74,.int .u8 49] 5))=w5 at O5 hd |-;generalize (.slice (some (U (w2.heap.size+1) 0)) 3 3:Value)=v5 at O5 |-;have X5:=Q (zf (Z X2) hd (by rw[uc];have:=Z Z2;omega));have Y5:=Q (zf (Z Y2) hd (by rw[uc];have:=Z Z2;omega));have B5:=Q (lW (Z B2) hd);have Z5:Hid (b1<w2.heap.size/\w2.heap.size<w5.heap.size):=by have:=Z Z2;have:=hd.size;rw[uc] at this;refine⟨?_,?_⟩ <;> omega
 clear hd uc X2 Y2 B2 Z2;generalize w2.heap.size=b2 at X5 Y5 Z5 |-;refine(Z HI2 v5 w5 (Z O5) (Z B5)).mono ?_;rintro e w6 ⟨rfl,vN⟩;obtain⟨dx,U6⟩:=lY w6 [.bool qb,H qx,H qr] 24;have X6:=Q (zf (zf (Z X5) vN (by have:=Z Z5;omega)) dx (by have:=Z Z5;have:=vN.size;omega));have Y6:=Q (zf (zf (Z Y5) vN (Z Z5).2) dx (by have:=Z Z5;have:=vN.size;omega));have B6:Hid (yn w (w6.alloc (J #[.bool qb,H qx,H qr] 24))):=(lW (Z B5) vN).trans (dx.mono (yN (Z B5).size vN.size));have cH:=zh w6 (J #[.bool qb,H qx,H qr] 24);have Z6:Hid (b1<b2/\b2<w6.heap.size):=⟨(Z Z5).1,by have:=Z Z5;have:=vN.size;omega⟩;clear vN dx X5 Y5 B5 O5 Z5 HI2
 have HO:Hid (((w6.alloc (J #[.bool qb,H qx,H qr] 24)).alloc (J #[.int .u8 84,.int .u8 74,.int .u8 49] 5)).ownsRow w.heap.size 5 1 (.slice (some (U (w6.heap.size+1) 0)) 3 3) 3 [.int .u8 84,.int .u8 74,.int .u8 49]):=by
  have:=own3 (B:=w.heap.size) (w6.alloc (J #[.bool qb,H qx,H qr] 24)) (Z B6).size;rwa[cH] at this
 have X:Below (w6.alloc (J #[.bool qb,H qx,H qr] 24)).heap.size (w6.alloc (J #[.bool qb,H qx,H qr] 24)) ((w6.alloc (J #[.bool qb,H qx,H qr] 24)).alloc (J #[.int .u8 84,.int .u8 74,.int .u8 49] 5)):=lT _ _;have O8:Hid (OwnT w.heap.size ((w6.alloc (J #[.bool qb,H qx,H qr] 24)).alloc (J #[.int .u8 84,.int .u8 74,.int .u8 49] 5)) (.slice (some (U (w6.heap.size+1) 0)) 3 3) [84,74,49]):=own3_row (l:=[]) (by decide) (Z HO);have HD:=Q X;clear X;go_wp2_with (at_builtin;go_must (refine wpList_append_own_none rfl _ _ 22 rfl w.heap.size 5 i0 1 Tryz.underlying22 hi _ 3 [.int .u8 84,.int .u8 74,.int .u8 49] rfl (Z HO) rfl ?_));have hd:=Z HD;clear HO;generalize ((w6.alloc (J #[.bool qb,H qx,H qr] 24)).alloc (J #[.int .u8 84,.int .u8 74,.int .u8 49] 5))=w8 at O8 hd |-;generalize (.slice (some (U (w6.heap.size+1) 0)) 3 3:Value)=v8 at O8 |-;have X8:=Q (zf (Z X6) hd (by rw[cH];have:=Z Z6;omega));have Y8:=Q (zf (Z Y6) hd (by rw[cH];have:=Z Z6;omega));have U8:=Q (zf (Z U6) hd (by rw[cH];have:=Z Z6;omega));have B8:=Q (lW (Z B6) hd);have Z8:Hid (b1<b2/\b2<w6.heap.size/\w6.heap.size<w8.heap.size):=by have:=Z Z6;have:=hd.size;rw[cH] at this;refine⟨?_,?_,?_⟩ <;> omega
 clear hd cH X6 Y6 U6 B6 Z6;generalize w6.heap.size=b6 at X8 Y8 U8 Z8 |-;refine(Z vL v8 w8 (Z O8)).mono ?_;rintro e w9 ⟨rfl,jk⟩;have qE:=lT w9 (J #[.bool qb,H qx,H qr] 24);have z9:=jk.size;have X9:=Q (zf (zf (Z X8) jk (by have:=Z Z8;omega)) qE (by have:=Z Z8;omega));have Y9:=Q (zf (zf (Z Y8) jk (by have:=Z Z8;omega)) qE (by have:=Z Z8;omega));have U9:=Q (zf (zf (Z U8) jk (by have:=Z Z8;omega)) qE (by have:=Z Z8;omega));have T9:=Q (zj w9 [.bool qb,H qx,H qr] 24);have B9:Hid (yn w (w9.alloc (J #[.bool qb,H qx,H qr] 24))):=(lW (Z B8) jk).trans (qE.mono (yN (Z B8).size z9));clear jk qE z9 X8 Y8 U8 B8 O8 Z8;obtain ⟨x0,x1,x2⟩:=q0_3 (Z X9) rfl;obtain ⟨y0,y1,y2⟩:=q0_3 (Z Y9) rfl;obtain ⟨u0,u1,u2⟩:=q0_3 (Z U9) rfl;obtain ⟨t0,t1,t2⟩:=q0_3 (Z T9) rfl;have e1:(pc==pc)=true:=by simp
 have e2:(qc==qc)=true:=by simp
 have e3:(px==px)=true:=by simp
 have e4:(pr==pr)=true:=by simp
 have e5:(pb==pb)=true:=by simp
 have e6:(qx==qx)=true:=by simp
 have e7:(qr==qr)=true:=by simp
 have e8:(qb==qb)=true:=by simp
 go_wp2_with fail;go_ret;exact⟨rfl,Z B9⟩
theorem lawAny (a:Option Addr)(len cap:Nat)(zs:List Int)(w:World)
  (h:(a=none/\len=0/\cap=0/\zs = []) \/ ∃x,a=some x/\len<=cap/\cap<=maxLen/\zs.length=cap/\(∀i,i<zs.length->w.cell? (x.add i)=some (.int .u8 (zs.getD i 0)))/\∀n∈zs,(Lit.int .u8 n).wf=true) (hE:ErrT w) :
  Calls Tryz.prog 3 #[.slice a len cap] w fun e w'=>e=ym (.bool true)/\yn w w':=by
 by_cases hl:len<=60000
 ·obtain⟨D,E,h3⟩:=rd_of_row h (by omega);rcases h with⟨rfl,rfl,rfl,rfl⟩|⟨x,rfl,jC,_,hz,hc,hw⟩
  ·exact any_none w E (fun a n c e=>by cases e;exact Nat.le_refl _) hE
  ·have X:dR (.slice (some x) len cap):=fun a n c e=>by cases e;exact jC
   have hx:∀W,yn w W->∀j u,((zs.take len).map (Value.int .u8))[j]? = some u->W.cell? (x.add j)=some u:=fun W hW j u hu=>by
    rw[List.getElem?_map,Option.map_eq_some_iff] at hu;obtain⟨y,hy,rfl⟩:=hu;have hj:=(yG.1 hy).1;rw[List.length_take] at hj;have hcj:=hc j (by omega);rw[hW.cell (yK _ _ hcj),hcj];rw[List.getElem?_take_of_lt (by omega)] at hy;simp[List.getD,hy]
   rw[<- D] at X E |-;exact any_some x cap _ w hx (by rwa[D] at E |-) (by rwa[D] at X |-) h3 (by omega) hE
 ·have kQ:(60000:Int)<len:=by omega
  clear h hE;go_enter Tryz.func3,Tryz.ntmps3;go_wp2_with fail;go_ret;exact⟨rfl,Below.refl _ _⟩
end Go.Proofs.YtbghmldggahjiaaGreatDoor
