/-.-/
import Derived.Test.YtbghmldggahjiaaGreatDoorUj49
set_option linter.unusedVariables false
set_option maxHeartbeats 6400000
set_option maxRecDepth 100000
namespace Go.Proofs.YtbghmldggahjiaaGreatDoor
open Go.RowKit
def sdV (sd:Int)(b:Nat):Value:=if sd=1 then fo b else fq b
def TrA (L:List Od)(sd:Int)(V:World)(b:Nat):Prop:=if sd=1 then dQ 249 true V b 1 (zB L 1) else dQ 252 false V b 2 (zB L 2)
structure CG (lV B C bk:Nat) (w:World) (vt0 va vb:Value) (N:Int) (L:List Od) (es:List Ev) (vs:List Value) (vt:Value) (tl:List Cm) (W:World):Prop where
 kp:Kp lV vt0 w W
 box:Bx W lV vs
 typ:∃cur,W.heap[lV]? = some (.cells cur 45 (0,0))
 told:W.ownsRow B 57 8 vt tl.length (tl.flatMap Cm.vs)
 bkx:Bx W bk [.int .i64 N,vb]
 row:ORow W B vb L
 rd:ERow W C va es
 jl:lV<W.heap.size
 kl:bk<W.heap.size
 ne:bk≠lV
section
variable {lV B C bk:Nat} {w:World} {vt0 va vb:Value} {N:Int} {L:List Od} {es:List Ev} {vs:List Value} {vt:Value} {tl:List Cm} {W W':World}
theorem cg_below (h:CG lV B C bk w vt0 va vb N L es vs vt tl W)(A:yn W W'):CG lV B C bk w vt0 va vb N L es vs vt tl W':=by
 obtain⟨xr,hc⟩:=h.typ;exact⟨eg h.kp A,zf h.box A h.jl,⟨xr,(A.block lV h.jl).trans hc⟩,fP h.told A,zf h.bkx A h.kl,zK h.row A,fc h.rd A,yJ h.jl A.size,yJ h.kl A.size,h.ne⟩
theorem cg_kp (v:Value)(h:CG lV B C bk w vt0 va vb N L es vs vt tl W)(X:Kp lV v W W')(hv:∀b,v.ownBlock=some b->vt0.ownBlock=some b/\(∃xr,W.heap[b]? = some (.cells xr 57 (0,0)))/\b≠bk){vs':List Value}{vU:Value}{tl':List Cm}(hx:Bx W' lV vs')(ht:∃xr,W'.heap[lV]? = some (.cells xr 45 (0,0)))(K:W'.ownsRow B 57 8 vU tl'.length (tl'.flatMap Cm.vs)):CG lV B C bk w vt0 va vb N L es vs' vU tl' W':=by
 have apart:∀ {B e sz n:Nat} {u:Value} {xs:List Value},W.ownsRow B e sz u n xs->57 ≠ e->u.ownBlock=none\/u.ownBlock≠v.ownBlock:=fun {B e sz n u xs} K xy=>by
  cases hvb:v.ownBlock with
  | none=>cases hu:u.ownBlock with
   | none=>exact .inl rfl
   | some x=>exact .inr (by simp)
  | some b=>exact .inr fun e=>zy K (hv b hvb).2.1 xy (by rw[e])
 refine⟨⟨X.os.trans h.kp.os,X.tape.trans h.kp.tape,X.output.trans h.kp.output,yN h.kp.size X.size,fun k hl D E=>?_⟩,hx,ht,K,?_,kp_own h.row X (zy h.row h.typ (by decide)) (apart h.row (by decide)),kp_own h.rd X (zy h.rd h.typ (by decide)) (apart h.rd (by decide)),yJ h.jl X.size,yJ h.kl X.size,h.ne⟩
 ·exact(X.block k (yJ hl h.kp.size) D (fun e=>E (hv k e.symm).1.symm)).trans (h.kp.block k hl D E)
 ·exact zQ h.bkx (X.block bk h.kl h.ne (fun e=>(hv bk e.symm).2.2 rfl))
theorem fF (h:CG lV B C bk w vt0 va vb N L es vs vt tl W)(j:Nat)(u:Value)(hj:j<vs.length):CG lV B C bk w vt0 va vb N L es (vs.set j u) vt tl (W.setCell (U lV j) u):=
 cg_kp (.slice none 0 0) h (kp_set (eL (Below.refl _ _)) j u) (fun b A=>by cases A) (eh h.box hj) (gP h.typ) (dT h.told (zy h.told h.typ (by decide)) j u)
end
theorem jgClose_any:CloseG:=by
 intro lV B cs vq vt e0 r va vb C w h bz xD kz X hE xS;have hsf:=sfl;obtain⟨i0,hi,uE,uw,uC⟩:=info_parts infoCJ;have hJl:=h.lt;have xU:RdR Ev.vs 14 w va (e0::r):=ik (gh Ev.len (by omega) kz);have jj:=Q (fun W=>toldCmd_any e0 W X);have HRN:=Q (run_snoc cs (zV e0));unfold rstep at HRN;rw[<- hE] at HRN;generalize stN (runS cs).n (runS cs).l (zV e0)=N at HRN;generalize stL (runS cs).n (runS cs).l (zV e0)=L at xS HRN;have HPO:=Q (pkO_snoc cs (zV e0));have kb:=Q (pkL_snoc cs (zV e0));rw[Z HRN] at HPO kb;have jK:=(gR (cs ++ [zV e0]) (by simp;omega)).1;rw[Z HRN] at jK;have qM:Hid (GoodL L):=jK.good;have bT:Hid (∀o∈L,o.side=1\/o.side=2):=jK.side;clear hE X jK;generalize zV e0=tc at jj HRN HPO kb |-;obtain⟨pz,ts,tt,tl,tq,ti,tp,tg⟩:=tc;have jm:=h.box;have htp:=h.typ;have htl:=h.told;have hJB:=h.hJ;have HVL:Hid (∀b,vt.ownBlock=some b->b<w.heap.size):=fun b A=>(h.told.lt b A).2;unfold jgV at jm
 have HFN:Hid (∀W vU,Bx W lV [H N,vb,H (wgT (runS cs).t (e0::r)).gr,H (wgT (runS cs).t (e0::r)).ac,H (wgT (runS cs).t (e0::r)).rf,H (wgT (runS cs).t (e0::r)).tr,H (wgT (runS cs).t (e0::r)).vo,H (wgT (runS cs).t (e0::r)).no,H (wgT (runS cs).t (e0::r)).li,H (wgT (runS cs).t (e0::r)).le,vU,H (max (pkO cs) L.length:Nat),H (max (pkL cs) (nlev L):Nat)]->(∃xr,W.heap[lV]? = some (.cells xr 45 (0,0)))->ORow W B vb L->W.ownsRow B 57 8 vU (cs.length+1) (cs.flatMap Cm.vs++Cm.vs ⟨pz,ts,tt,tl,tq,ti,tp,tg⟩)->JG lV B W (cs ++ [⟨pz,ts,tt,tl,tq,ti,tp,tg⟩]) vb vU):=fun W vU D E h3 h4=>by
  refine⟨?_,E,?_,?_,hJB⟩
  ·unfold jgV;rw[Z HRN,Z HPO,Z kb];simpa using D
  ·rw[Z HRN];exact h3
  ·simpa using h4
 clear h HRN HPO kb;generalize (runS cs).n=n0 at jm;generalize (runS cs).t=t0 at jm HFN;generalize pkO cs=po at jm HFN;generalize pkL cs=pl at jm HFN;obtain⟨ba,bc,rfl⟩:=fI xS;obtain⟨a,c,rfl,-,hc⟩:=id xU;obtain⟨b,off,rfl,hbl,hc⟩:=hc (by simp);have ks:=hc 0 e0 rfl;simp only[Nat.zero_mul,Nat.add_zero] at ks;have xA:=lT w (J #[H N,(.slice ba L.length bc)] 41)
 have HCG:Hid (CG lV B C w.heap.size w vt (.slice (some (U b off)) (e0::r).length c) (.slice ba L.length bc) N L (e0::r) [H n0,vq,H t0.gr,H t0.ac,H t0.rf,H t0.tr,H t0.vo,H t0.no,H t0.li,H t0.le,vt,H po,H pl] vt cs (w.alloc (J #[H N,(.slice ba L.length bc)] 41))):=by
  obtain⟨xr,hc⟩:=htp;exact⟨eL xA,zf jm xA hJl,⟨xr,(xA.block lV hJl).trans hc⟩,fP htl xA,zj w [H N,(.slice ba L.length bc)] 41,zK xS xA,fc kz xA,yJ hJl xA.size,by simp,by omega⟩
 have kt:w.heap.size<(w.alloc (J #[H N,(.slice ba L.length bc)] 41)).heap.size:=by simp
 obtain⟨g0,g1,g2,g3,g4,g5,g6,g7,g8,g9,oi,jU,qh,oZ⟩:=ev_cells (zd ks xA hbl);have oo:(0:Int)<((r.length+1:Nat):Int):=by omega
 have HLE:Hid ((e0::r).length<=8192):=xD;clear kz xS xU hc jm htp htl ks xA xD;unfold evV cmV at jj;simp only at jj;go_enter Tryz.func48,Tryz.ntmps48;go_wp2_with fail;generalize (w.alloc (J #[H N,(.slice ba L.length bc)] 41))=W0 at HCG kt g0 g1 g2 g3 g4 g5 g6 g7 g8 g9 oi jU qh oZ |-;refine(Z jj W0).mono ?_;rintro e w1 ⟨rfl,xR⟩;obtain⟨kf,xF⟩:=lY w1 (yx pz ts tt tl tq ti tp tg) 57;have xE:=xR.trans (kf.mono xR.size);have oe:=Q (cg_below (Z HCG) xE);have xI:=xR.size;have uc:w1.heap.size<(w1.alloc (J (yx pz ts tt tl tq ti tp tg).toArray 57)).heap.size:=by simp
 clear g0 g1 g2 g3 g4 g5 g6 g7 g8 g9 oi jU qh oZ HCG xR xE kf jj;go_wp2_with fail;generalize (w1.alloc (J (yx pz ts tt tl tq ti tp tg).toArray 57))=W2 at oe xF uc |-;have hj10:=Y (Z oe).box 10 rfl;have hf10:=zc (Z oe).box 10 (by show 10<13;decide);obtain⟨m0,m1,m2,m3,m4,m5,m6,m7⟩:=yz (Z xF);have hneJ:some lV≠vt.ownBlock:=zy (Z oe).told (Z oe).typ (by decide);have hJ2:lV<W2.heap.size:=by omega
 have hM2:w1.heap.size<W2.heap.size:=uc;have oB:w.heap.size<W2.heap.size:=by omega
 rename_i ho hK;have HK:=Q hK;clear hK;refine(fun(HT:Hid (∀(g cap:Nat) (W3:World),CG lV B C w.heap.size w vt (.slice (some (U b off)) (e0::r).length c) (.slice ba L.length bc) N L (e0::r) [H n0,vq,H t0.gr,H t0.ac,H t0.rf,H t0.tr,H t0.vo,H t0.no,H t0.li,H t0.le,(.slice (some (U g 0)) (cs.length+1) cap),H po,H pl] (.slice (some (U g 0)) (cs.length+1) cap) (cs ++ [⟨pz,ts,tt,tl,tq,ti,tp,tg⟩]) W3->ho ((?A:Nat->Nat->Act) g cap) W3))=>?main) ?ht
 case main =>
  go_region_law ((refine step_append_lies _ (by rfl) _ _ _ (by rfl) B 57 i0 _ 8 72 Tryz.underlying31 hi uE uw uC rfl (by decide) _ cs.length (cs.flatMap Cm.vs) (by rfl) (fP (Z oe).told ((Below.refl W2.heap.size W2).alloc ya _).drew) (yq W2 0) 1 1 (Cm.vs ⟨pz,ts,tt,tl,tq,ti,tp,tg⟩) (by rfl) rfl (cellsJ rfl _ _) (one_cm _) (by decide) (by unfold maxLen;omega) (by omega) (by show B<=(W2.alloc _).heap.size;rw[zh];omega) (W2.heap.size+1) (by simp) ?_;intro g cap w3 aR uW hat3 hlt3;have y10:=(uW.cell_far (U lV 10) (by show lV<(W2.alloc _).heap.size;rw[zh];omega) hneJ).trans ((((Below.refl W2.heap.size W2).alloc ya _).drew.cell (p:=(U lV 10)) (by show lV < _;omega)).trans hj10);have jv:=(uW.frozen_far (U lV 10) (by show lV<(W2.alloc _).heap.size;rw[zh];omega) hneJ).trans ((World.frozen?_of_block (a:=(U lV 10)) (((Below.refl W2.heap.size W2).alloc ya _).drew.block lV (by omega))).trans hf10)))
  all_goals
   refine Z HT g cap _ ?_;have hkp:Kp lV vt W2 (w3.setCell (U lV 10) (.slice (some (U g 0)) (cs.length+1) cap)):=kp_set (kp_kp (eL ((Below.refl W2.heap.size W2).alloc ya (J (yx pz ts tt tl tq ti tp tg).toArray 57)).drew) ⟨uW.os,uW.tape,uW.output,uW.size,fun k X _ E=>uW.block k X E⟩) _ _;have hbJ:w3.heap[lV]? = W2.heap[lV]?:=(uW.block lV (by show lV<(W2.alloc _).heap.size;rw[zh];omega) hneJ).trans (((Below.refl W2.heap.size W2).alloc ya _).drew.block lV hJ2);refine cg_kp vt (Z oe) hkp (fun b A=>⟨A,?_,?_⟩) (eh (j:=10) (zQ (Z oe).box ?_) (by show 10<13;decide)) (gP ?_) ?_
   ·exact own_typ (Z oe).told A
   ·have:=Z HVL b A;omega
   ·exact hbJ
   ·obtain⟨xr,hc⟩:=(Z oe).typ;exact⟨xr,hbJ.trans hc⟩
   ·have hty:∃xr,w3.heap[lV]? = some (.cells xr 45 (0,0)):=by obtain⟨xr,hc⟩:=(Z oe).typ;exact⟨xr,hbJ.trans hc⟩
    simpa using dT aR (zy aR hty (by decide)) 10 _
 case ht =>
  intro g cap W3 hcg;have aY:=Q hcg;refine Z HK _ _ ?_;clear HK oe xF hcg hj10 hf10 m0 m1 m2 m3 m4 m5 m6 m7 hneJ hJ2 hM2 oB xI uc;obtain ⟨z0,z1,z2,z3,z4,z5,z6,z7,z8,z9,jv,jL,jZ⟩:=q0_13 ((Z aY).box) rfl;have HWG:=Q (fun W hW=>withGroup_any t0 (.slice (some (U b off)) (e0::r).length c) (e0::r) W hW);go_wp2_with fail;refine(Z HWG W3 (ik (gh Ev.len (by have:=Z HLE;omega) (Z aY).rd))).mono ?_;rintro e w4 ⟨rfl,xz⟩;have jw:=Q (cg_below (Z aY) xz);generalize wgT t0 (e0::r)=t1 at HFN |-;clear z0 z1 z2 z3 z4 z5 z6 z7 z8 z9 jv jL jZ aY xz HWG;obtain ⟨z0,z1,z2,z3,z4,z5,z6,z7,z8,z9,jv,jL,jZ⟩:=q0_13 ((Z jw).box) rfl;obtain ⟨f0,f1,f2,f3,f4,f5,f6,f7,f8,f9,f10,cU,f12⟩:=r0_13 ((Z jw).box) rfl;have q0:=Y (Z jw).bkx 0 rfl;have q1:=Y (Z jw).bkx 1 rfl;have hnk:w.heap.size≠lV:=(Z jw).ne;have HC5:Hid (CG lV B C w.heap.size w vt (.slice (some (U b off)) (e0::r).length c) (.slice ba L.length bc) N L (e0::r) [H N,(.slice ba L.length bc),H t1.gr,H t1.ac,H t1.rf,H t1.tr,H t1.vo,H t1.no,H t1.li,H t1.le,(.slice (some (U g 0)) (cs.length+1) cap),H po,H pl] (.slice (some (U g 0)) (cs.length+1) cap) (cs ++ [⟨pz,ts,tt,tl,tq,ti,tp,tg⟩]) ((((((((((w4.setCell (U lV 2) (H t1.gr)).setCell (U lV 3) (H t1.ac)).setCell (U lV 4) (H t1.rf)).setCell (U lV 5) (H t1.tr)).setCell (U lV 6) (H t1.vo)).setCell (U lV 7) (H t1.no)).setCell (U lV 8) (H t1.li)).setCell (U lV 9) (H t1.le)).setCell (U lV 0) (H N)).setCell (U lV 1) ((.slice ba L.length bc)))):=fF (fF (fF (fF (fF (fF (fF (fF (fF (fF (Z jw) 2 (H t1.gr) (by show _ < 13;decide)) 3 (H t1.ac) (by show _ < 13;decide)) 4 (H t1.rf) (by show _ < 13;decide)) 5 (H t1.tr) (by show _ < 13;decide)) 6 (H t1.vo) (by show _ < 13;decide)) 7 (H t1.no) (by show _ < 13;decide)) 8 (H t1.li) (by show _ < 13;decide)) 9 (H t1.le) (by show _ < 13;decide)) 0 (H N) (by show _ < 13;decide)) 1 ((.slice ba L.length bc)) (by show _ < 13;decide);go_wp2_with fail;generalize ((((((((((w4.setCell (U lV 2) (H t1.gr)).setCell (U lV 3) (H t1.ac)).setCell (U lV 4) (H t1.rf)).setCell (U lV 5) (H t1.tr)).setCell (U lV 6) (H t1.vo)).setCell (U lV 7) (H t1.no)).setCell (U lV 8) (H t1.li)).setCell (U lV 9) (H t1.le)).setCell (U lV 0) (H N)).setCell (U lV 1) ((.slice ba L.length bc)))=W5 at HC5 |-;clear z0 z1 z2 z3 z4 z5 z6 z7 z8 z9 jv jL jZ f0 f1 f2 f3 f4 f5 f6 f7 f8 f9 f10 cU f12 q0 q1 jw;have HC5D:=Q (cg_below (Z HC5) (Below.refl W5.heap.size W5).drew);have jL:W5.drew.cell? (U lV 11)=some (H po):=Y (Z HC5D).box 11 rfl;have cU:W5.drew.frozen? (U lV 11)=false:=zc (Z HC5D).box 11 (by show _ < 13;decide);have q1:W5.drew.cell? (yq w 1)=some (.slice ba L.length bc):=Y (Z HC5D).bkx 1 rfl;have HMX:=Q (fun a c=>max_run a c);have cC:∀W,(Builtin.max_ #[3,3] 3 #[H po,H L.length]).run Tryz.prog W = .ok (H ((max po L.length:Nat):Int)) W:=fun W=>Z HMX _ _ W;refine zw 9 (by kernel_rfl) (by kernel_rfl) ?_;simp only[yT,List.take_zero,yU,List.drop_zero]
  repeat still_step
  refine wpStill_nil ?_;generalize max po L.length=po1 at cC HFN |-;have ph:Hid (CG lV B C w.heap.size w vt (.slice (some (U b off)) (e0::r).length c) (.slice ba L.length bc) N L (e0::r) [H N,(.slice ba L.length bc),H t1.gr,H t1.ac,H t1.rf,H t1.tr,H t1.vo,H t1.no,H t1.li,H t1.le,(.slice (some (U g 0)) (cs.length+1) cap),H po1,H pl] (.slice (some (U g 0)) (cs.length+1) cap) (cs ++ [⟨pz,ts,tt,tl,tq,ti,tp,tg⟩]) (W5.setCell (U lV 11) (H po1)).drew):=fF (Z HC5D) 11 (H po1) (by show _ < 13;decide);clear HC5;go_wp2_with fail;generalize (W5.setCell (U lV 11) (H po1)).drew=W6 at ph |-;clear jL cU q1 cC HC5D;generalize Value.tuple #[.agg (yx pz ts tt tl tq ti tp tg).toArray,.bool (zR e0.kind)]=dA;generalize Value.agg (yx pz ts tt tl tq ti tp tg).toArray=dB;generalize Value.bool (zR e0.kind)=dC;generalize Value.agg (yv e0.kind e0.cmd.k e0.cmd.s e0.cmd.t e0.cmd.l e0.cmd.q e0.cmd.i e0.cmd.p e0.cmd.g e0.id e0.other e0.qty e0.price e0.reason).toArray=dD;generalize Value.agg #[H t0.gr,H t0.ac,H t0.rf,H t0.tr,H t0.vo,H t0.no,H t0.li,H t0.le]=dE;generalize Value.agg #[H t1.gr,H t1.ac,H t1.rf,H t1.tr,H t1.vo,H t1.no,H t1.li,H t1.le]=dF;have hJ6:=(Z ph).jl;have dx:=(Z ph).kl;have zJ:W6.cell? (U lV 12)=some (H pl):=Y (Z ph).box 12 rfl;have fJ:W6.frozen? (U lV 12)=false:=zc (Z ph).box 12 (by show _ < 13;decide);have qA:W6.cell? (yq w 0)=some (H N):=Y (Z ph).bkx 0 rfl;have qB:W6.cell? (yq w 1)=some (.slice ba L.length bc):=Y (Z ph).bkx 1 rfl;have oF:Hid (∀V,yn W6 V->RdR Od.vs 6 V (.slice ba L.length bc) L):=fun V hV=>zP (zK (Z ph).row hV) (by have:=(Z qM).len;omega);have HLB:Hid (∀o∈L,0<=o.left/\o.left<=1000000):=fun o K=>by have:=(Z qM).left o K;omega
  have HSX:Hid (∀V sd,yn W6 V->(sd=1\/sd=2)->Calls Tryz.prog 77 #[.agg #[H N,.slice ba L.length bc],H sd] V fun e w'=>∃b,e=ym (sdV sd b)/\TrA L sd w' b/\(∀b',TrA L 1 V b'->TrA L 1 w' b')/\yn W6 w'):=fun V sd hV vh=>by
   rcases vh with rfl|rfl
   ·exact(lz N _ L V (Z oF V hV) (Z qM).len (Z HLB)).mono fun e w' ⟨b,D,E,_,h4⟩=>⟨b,D,E,fun b' cj=>zH cj (h4.block b' (zZ cj)),hV.trans (h4.mono hV.size)⟩
   ·exact(ln N 2 (by decide) _ L V (Z oF V hV) (Z qM).len (Z HLB)).mono fun e w' ⟨b,D,E,_,h4⟩=>⟨b,D,E,fun b' cj=>zH (show dQ 249 true V b' 1 (zB L 1) from cj) (h4.block b' (zZ (show dQ 249 true V b' 1 (zB L 1) from cj))),hV.trans (h4.mono hV.size)⟩
  have HCT:Hid (∀V b1 b2,yn W6 V->TrA L 1 V b1->TrA L 2 V b2->Calls Tryz.prog 76 #[sdV 1 b1,sdV 2 b2] V fun e w'=>e=ym (H (nlev L))/\yn W6 w'):=fun V b1 b2 hV D E=>by
   refine(lO b1 b2 1 2 _ _ V D E (yN (List.length_filter_le _ _) (Z qM).len) (yN (List.length_filter_le _ _) (Z qM).len)).mono fun e w' ⟨h3,h4⟩=>⟨?_,hV.trans (h4.mono hV.size)⟩;rw[h3,dX,dX,List.length_map,List.length_map];have:=nlev_eq (Z bT) (gz true _) (gz false _);rw[this];simp
  have cC:∀W,(Builtin.max_ #[3,3] 3 #[H pl,H (nlev L)]).run Tryz.prog W = .ok (H ((max pl (nlev L):Nat):Int)) W:=fun W=>Z HMX _ _ W;generalize max pl (nlev L)=pl1 at cC HFN;generalize nlev L=nl at cC HCT;have hbD:yn W6 W6.drew:=(Below.refl _ _).drew;clear hbD;have hbD:Hid (yn W6 W6.drew):=(Below.refl _ _).drew
  go_region_with (first|(go_at_call 77;refine(Z HSX _ _ (by first|exact hq|exact Z hbD) (by decide)).mono ?_;rintro e w7 ⟨b1,rfl,ht1,hkp,hq⟩;have zE:=(hq.cell (p:=(U lV 12)) hJ6).trans zJ;have fE:=(World.frozen?_of_block (a:=(U lV 12)) (hq.block lV hJ6)).trans fJ;have q0E:=(hq.cell (p:=(yq w 0)) dx).trans qA;have q1E:=(hq.cell (p:=(yq w 1)) dx).trans qB)|(go_at_call 76;refine(Z HCT _ _ _ hq (hkp _ (by assumption)) ht1).mono ?_;rintro e w9 ⟨rfl,hq⟩;have zG:=(hq.cell (p:=(U lV 12)) hJ6).trans zJ;have fG:=(World.frozen?_of_block (a:=(U lV 12)) (hq.block lV hJ6)).trans fJ;have q0G:=(hq.cell (p:=(yq w 0)) dx).trans qA;have q1G:=(hq.cell (p:=(yq w 1)) dx).trans qB))
  all_goals
   go_end0;have hc:=fF (cg_below (Z ph) hq) 12 (H pl1) (by show _ < 13;decide);exact⟨rfl,_,Z HFN _ _ hc.box hc.typ hc.row (by simpa using hc.told),hc.kp⟩
theorem iL (v:Value)(l:List Int)(w:World)(hr:Rd w v l)(xC:dR v)(A:Bts l)(hE:ErrT w) :
  Calls Tryz.prog 7 #[v] w fun e w'=>e=ym (jdV l)/\yn w w':=by
 obtain⟨a,c,rfl⟩:=eb hr;have hlm:l.length<=1073741824:=by obtain⟨_,_,_,h,_⟩:=hr;exact h
 obtain⟨xA,HX⟩:=lY w [.bool false,H 0,H 0] 24;have HB:=Q xA;have kt:w.heap.size<(w.alloc (J #[.bool false,H 0,H 0] 24)).heap.size:=by simp
 by_cases hl:65536<l.length
 ·have HD:Hid (jdV l = .tuple #[.agg #[.bool false,H 0,H 0],H 2]):=if_pos hl;rw[Z HD];have kQ:((65536:Int)<l.length):=by omega
  clear hr xC A hE xA;go_enter Tryz.func7,Tryz.ntmps7;go_wp2_with fail;have d:=Z HX;exact bodyPost_ret (by simp[results,Tryz.results7,go_sem,Y d 0 rfl,Y d 1 rfl,Y d 2 rfl];try rfl) rfl ⟨rfl,Z HB⟩
 ·have HD:Hid (jdV l = .tuple #[vdV (judJ l).2,H 0]):=if_neg hl;rw[Z HD];have kQ:¬ ((65536:Int)<l.length):=by omega
  have kD:=Q (judgeTape_any jgClose_any _ l _ (zN hr xA ya) xC A (by omega) (zY hE xA ya));clear hr xC A hE xA;unfold JtE jgV vdV at kD;unfold vdV;generalize judJ l=JJ at kD |-;obtain⟨cs,x,r⟩:=JJ;simp only at kD |-;go_enter Tryz.func7,Tryz.ntmps7;go_wp2_with fail;generalize (w.alloc (J #[.bool false,H 0,H 0] 24))=W0 at HX HB kt kD |-;refine(Z kD).mono ?_;rintro e w1 ⟨vq,vt,rfl,xS,pL,xR⟩;obtain⟨qa,qc,rfl⟩:=fI xS;obtain⟨ta,tc,rfl⟩:=fI pL;have uh:=Q (zf (Z HX) xR kt);have ud:=Q (lW (Z HB) xR);have xI:w.heap.size<w1.heap.size:=yJ kt xR.size;obtain ⟨z0,z1,z2⟩:=q0_3 (Z uh) rfl;obtain ⟨f0,f1,f2⟩:=r0_3 (Z uh) rfl;have xt:=Q (zk (us:=[.bool (decide (r=0)),H x,H r]) (Z uh) rfl);have vB:=Q (zg w.heap.size ya [.bool (decide (r=0)),H x,H r] 0 _ (Z ud));have HSF:Hid (w1.heap.size<=(w1.setCells w.heap.size 0 [.bool (decide (r=0)),H x,H r]).heap.size):=(zg w.heap.size ya [.bool (decide (r=0)),H x,H r] 0 w1 (Below.refl _ w1)).size;clear xS pL xR kD HX HB;go_wp2_with fail;rw[set3];generalize w1.setCells w.heap.size 0 [.bool (decide (r=0)),H x,H r]=WF at xt vB HSF |-;have d:=zf (Z xt) (((Below.refl WF.heap.size WF).alloc ya (J #[H (runS cs).n,.slice qa (runS cs).l.length qc,H (runS cs).t.gr,H (runS cs).t.ac,H (runS cs).t.rf,H (runS cs).t.tr,H (runS cs).t.vo,H (runS cs).t.no,H (runS cs).t.li,H (runS cs).t.le,.slice ta cs.length tc,H (pkO cs),H (pkL cs)] 45)).alloc (by simp) (J #[.bool (decide (r=0)),H x,H r] 24)) (yJ xI (Z HSF));have hbf:=(((Z vB).alloc (Z vB).size (J #[H (runS cs).n,.slice qa (runS cs).l.length qc,H (runS cs).t.gr,H (runS cs).t.ac,H (runS cs).t.rf,H (runS cs).t.tr,H (runS cs).t.vo,H (runS cs).t.no,H (runS cs).t.li,H (runS cs).t.le,.slice ta cs.length tc,H (pkO cs),H (pkL cs)] 45)).alloc (by have:=(Z vB).size;simp;omega) (J #[.bool (decide (r=0)),H x,H r] 24));exact bodyPost_ret (by simp[results,Tryz.results7,go_sem,Y d 0 rfl,Y d 1 rfl,Y d 2 rfl];try rfl) rfl ⟨rfl,hbf⟩
def LtE (w:World)(l:List Int)(e:Ending)(w':World):Prop:=∃(n:Int) (qa:Option Addr) (qn qc:Nat) (t:Tot) (ta:Option Addr) (tc:Nat),e=ym (.tuple #[.agg #[H n,.slice qa qn qc,H t.gr,H t.ac,H t.rf,H t.tr,H t.vo,H t.no,H t.li,H t.le,.slice ta (exL l).length tc,H (pkO (exL l)),H (pkL (exL l))],H (exC l)])/\w'.ownsRow w.heap.size 57 8 (.slice ta (exL l).length tc) (exL l).length ((exL l).flatMap Cm.vs)/\yn w w'
theorem lawful_any (v:Value)(l:List Int)(w:World)(hr:Rd w v l)(xC:dR v)(A:Bts l)(hE:ErrT w) :
  Calls Tryz.prog 22 #[v] w fun e w'=>LtE w l e w':=by
 obtain⟨a,c,rfl⟩:=eb hr;have hlm:l.length<=1073741824:=by obtain⟨_,_,_,h,_⟩:=hr;exact h
 obtain⟨xA,HX⟩:=lY w [H 0,.slice none 0 0,H 0,H 0,H 0,H 0,H 0,H 0,H 0,H 0,.slice none 0 0,H 0,H 0] 45;have HY:Hid (∃xr,(w.alloc (J #[H 0,.slice none 0 0,H 0,H 0,H 0,H 0,H 0,H 0,H 0,H 0,.slice none 0 0,H 0,H 0] 45)).heap[w.heap.size]? = some (.cells xr 45 (0,0))):=⟨_,heap_alloc_new _ _⟩;have HB:=Q xA;have kt:w.heap.size<(w.alloc (J #[H 0,.slice none 0 0,H 0,H 0,H 0,H 0,H 0,H 0,H 0,H 0,.slice none 0 0,H 0,H 0] 45)).heap.size:=by simp
 by_cases hl:65536<l.length
 ·have HD:Hid (exL l = []/\exC l=2):=⟨if_pos hl,if_pos hl⟩;unfold LtE;rw[(Z HD).1,(Z HD).2];have kQ:((65536:Int)<l.length):=by omega
  clear hr xC A hE xA;go_enter Tryz.func22,Tryz.ntmps22;go_wp2_with fail;have d:=Z HX;refine bodyPost_ret (by simp[results,Tryz.results22,go_sem,Y d 0 rfl,Y d 1 rfl,Y d 2 rfl,Y d 3 rfl,Y d 4 rfl,Y d 5 rfl,Y d 6 rfl,Y d 7 rfl,Y d 8 rfl,Y d 9 rfl,Y d 10 rfl,Y d 11 rfl,Y d 12 rfl];try rfl) rfl ?_;exact⟨0,none,0,0,tot0,none,0,rfl,⟨rfl,.inl ⟨rfl,rfl⟩⟩,Z HB⟩
 ·have HD:Hid (((judJ l).2.2=0->exL l=(judJ l).1/\exC l=0)/\((judJ l).2.2≠0->exL l = []/\exC l=8)):=⟨fun h=>⟨by unfold exL;rw[if_neg hl,if_pos h],by unfold exC;rw[if_neg hl,if_pos h]⟩,fun h=>⟨by unfold exL;rw[if_neg hl,if_neg h],by unfold exC;rw[if_neg hl,if_neg h]⟩⟩;have kQ:¬ ((65536:Int)<l.length):=by omega
  have kD:=Q (judgeTape_any jgClose_any _ l _ (zN hr xA ya) xC A (by omega) (zY hE xA ya));clear hr xC A hE xA;unfold JtE jgV vdV at kD;unfold LtE;generalize exL l=EL at HD |-;generalize exC l=EC at HD |-;generalize judJ l=JJ at kD HD;obtain⟨cs,x,r⟩:=JJ;simp only at kD HD;go_enter Tryz.func22,Tryz.ntmps22;refine lX fun ho HK=>?_;go_wp2_with fail;refine Z HK _ _ ?_;clear HK;generalize (w.alloc (J #[H 0,.slice none 0 0,H 0,H 0,H 0,H 0,H 0,H 0,H 0,H 0,.slice none 0 0,H 0,H 0] 45))=W0 at HX HB HY kt kD |-;refine lX fun ho HK=>?_;go_wp2_with fail;refine Z HK _ _ ?_;clear HK;refine lX fun ho HK=>?_;go_wp2_with fail;refine(Z kD).mono ?_;rintro e w1 ⟨vq,vt,rfl,xS,pL,xR⟩;obtain⟨qa,qc,rfl⟩:=fI xS;obtain⟨ta,tc,rfl⟩:=fI pL;have kf:yn w1 ((w1.alloc (J #[H (runS cs).n,.slice qa (runS cs).l.length qc,H (runS cs).t.gr,H (runS cs).t.ac,H (runS cs).t.rf,H (runS cs).t.tr,H (runS cs).t.vo,H (runS cs).t.no,H (runS cs).t.li,H (runS cs).t.le,.slice ta cs.length tc,H (pkO cs),H (pkL cs)] 45)).alloc (J #[.bool (decide (r=0)),H x,H r] 24)):=((Below.refl w1.heap.size w1).alloc ya _).alloc (by simp) _;have xE:=xR.trans (kf.mono xR.size);have uw:(w1.alloc (J #[H (runS cs).n,.slice qa (runS cs).l.length qc,H (runS cs).t.gr,H (runS cs).t.ac,H (runS cs).t.rf,H (runS cs).t.tr,H (runS cs).t.vo,H (runS cs).t.no,H (runS cs).t.li,H (runS cs).t.le,.slice ta cs.length tc,H (pkO cs),H (pkL cs)] 45)).heap.size=w1.heap.size+1:=by simp
  have uh:=Q (zf (Z HX) xE kt);have HY1:=Q (iD (Z HY) xE);have ud:=Q (lW (Z HB) xE);have jj:=Q (fP (rowE_mono pL (Z HB).size) kf);have az:Hid (Bx ((w1.alloc (J #[H (runS cs).n,.slice qa (runS cs).l.length qc,H (runS cs).t.gr,H (runS cs).t.ac,H (runS cs).t.rf,H (runS cs).t.tr,H (runS cs).t.vo,H (runS cs).t.no,H (runS cs).t.li,H (runS cs).t.le,.slice ta cs.length tc,H (pkO cs),H (pkL cs)] 45)).alloc (J #[.bool (decide (r=0)),H x,H r] 24)) w1.heap.size [H (runS cs).n,.slice qa (runS cs).l.length qc,H (runS cs).t.gr,H (runS cs).t.ac,H (runS cs).t.rf,H (runS cs).t.tr,H (runS cs).t.vo,H (runS cs).t.no,H (runS cs).t.li,H (runS cs).t.le,.slice ta cs.length tc,H (pkO cs),H (pkL cs)]):=zf (zj w1 [H (runS cs).n,.slice qa (runS cs).l.length qc,H (runS cs).t.gr,H (runS cs).t.ac,H (runS cs).t.rf,H (runS cs).t.tr,H (runS cs).t.vo,H (runS cs).t.no,H (runS cs).t.li,H (runS cs).t.le,.slice ta cs.length tc,H (pkO cs),H (pkL cs)] 45) ((Below.refl (w1.heap.size+1) _).alloc (by rw[uw];exact Nat.le_refl _) _) (by omega)
  have HV1:Hid (Bx ((w1.alloc (J #[H (runS cs).n,.slice qa (runS cs).l.length qc,H (runS cs).t.gr,H (runS cs).t.ac,H (runS cs).t.rf,H (runS cs).t.tr,H (runS cs).t.vo,H (runS cs).t.no,H (runS cs).t.li,H (runS cs).t.le,.slice ta cs.length tc,H (pkO cs),H (pkL cs)] 45)).alloc (J #[.bool (decide (r=0)),H x,H r] 24)) (w1.heap.size+1) [.bool (decide (r=0)),H x,H r]):=by
   have:=zj (w1.alloc (J #[H (runS cs).n,.slice qa (runS cs).l.length qc,H (runS cs).t.gr,H (runS cs).t.ac,H (runS cs).t.rf,H (runS cs).t.tr,H (runS cs).t.vo,H (runS cs).t.no,H (runS cs).t.li,H (runS cs).t.le,.slice ta cs.length tc,H (pkO cs),H (pkL cs)] 45)) [.bool (decide (r=0)),H x,H r] 24;rwa[uw] at this
  have xI:w.heap.size<w1.heap.size:=yJ kt xR.size;clear xS pL xR kD HX HB HY kf xE uw;go_wp2_with fail;refine Z HK _ _ ?_;clear HK;generalize ((w1.alloc (J #[H (runS cs).n,.slice qa (runS cs).l.length qc,H (runS cs).t.gr,H (runS cs).t.ac,H (runS cs).t.rf,H (runS cs).t.tr,H (runS cs).t.vo,H (runS cs).t.no,H (runS cs).t.li,H (runS cs).t.le,.slice ta cs.length tc,H (pkO cs),H (pkL cs)] 45)).alloc (J #[.bool (decide (r=0)),H x,H r] 24))=W2 at uh HY1 ud jj az HV1 |-;generalize w1.heap.size=b1 at az HV1 xI |-;obtain ⟨z0,z1,z2,z3,z4,z5,z6,z7,z8,z9,jv,jL,jZ⟩:=q0_13 (Z uh) rfl;obtain ⟨f0,f1,f2,f3,f4,f5,f6,f7,f8,f9,f10,cU,f12⟩:=r0_13 (Z uh) rfl;have v0:=Y (Z HV1) 0 rfl
  by_cases h0:r=0
  ·obtain⟨hEL,hEC⟩:=(Z HD).1 h0;have xU:decide (r=0)=true:=by simpa using h0
   have HEL:=Q hEL;have HEC:=Q hEC;rw[xU] at v0;clear hEL hEC h0 HD xU;obtain ⟨y0,y1,y2,y3,y4,y5,y6,y7,y8,y9,y10,y11,y12⟩:=q0_13 (Z az) rfl;have xt:=Q (zk (us:=[H (runS cs).n,.slice qa (runS cs).l.length qc,H (runS cs).t.gr,H (runS cs).t.ac,H (runS cs).t.rf,H (runS cs).t.tr,H (runS cs).t.vo,H (runS cs).t.no,H (runS cs).t.li,H (runS cs).t.le,.slice ta cs.length tc,H (pkO cs),H (pkL cs)]) (Z uh) rfl);have vB:=Q (zg w.heap.size ya [H (runS cs).n,.slice qa (runS cs).l.length qc,H (runS cs).t.gr,H (runS cs).t.ac,H (runS cs).t.rf,H (runS cs).t.tr,H (runS cs).t.vo,H (runS cs).t.no,H (runS cs).t.li,H (runS cs).t.le,.slice ta cs.length tc,H (pkO cs),H (pkL cs)] 0 _ (Z ud));have HTF:=Q (eP (zy (Z jj) (Z HY1) (by decide)) [H (runS cs).n,.slice qa (runS cs).l.length qc,H (runS cs).t.gr,H (runS cs).t.ac,H (runS cs).t.rf,H (runS cs).t.tr,H (runS cs).t.vo,H (runS cs).t.no,H (runS cs).t.li,H (runS cs).t.le,.slice ta cs.length tc,H (pkO cs),H (pkL cs)] 0 W2 (Z jj));clear uh ud jj az HV1 HY1;go_wp2_with fail;rw[set13];have d:=Z xt;refine bodyPost_ret (by simp[results,Tryz.results22,go_sem,Y d 0 rfl,Y d 1 rfl,Y d 2 rfl,Y d 3 rfl,Y d 4 rfl,Y d 5 rfl,Y d 6 rfl,Y d 7 rfl,Y d 8 rfl,Y d 9 rfl,Y d 10 rfl,Y d 11 rfl,Y d 12 rfl];try rfl) rfl ?_;rw[Z HEL,Z HEC];exact⟨_,_,_,_,(runS cs).t,ta,tc,rfl,Z HTF,Z vB⟩
  ·obtain⟨hEL,hEC⟩:=(Z HD).2 h0;have xU:decide (r=0)=false:=by simpa using h0
   have HEL:=Q hEL;have HEC:=Q hEC;rw[xU] at v0;clear hEL hEC h0 HD xU;have xt:=Q (zk (us:=[H 0,.slice none 0 0,H 0,H 0,H 0,H 0,H 0,H 0,H 0,H 0,.slice none 0 0,H 0,H 0]) (Z uh) rfl);have vB:=Q (zg w.heap.size ya [H 0,.slice none 0 0,H 0,H 0,H 0,H 0,H 0,H 0,H 0,H 0,.slice none 0 0,H 0,H 0] 0 _ (Z ud));have HTF:=Q (eP (zy (Z jj) (Z HY1) (by decide)) [H 0,.slice none 0 0,H 0,H 0,H 0,H 0,H 0,H 0,H 0,H 0,.slice none 0 0,H 0,H 0] 0 W2 (Z jj));clear uh ud jj az HV1 HY1;go_wp2_with fail;rw[set13];have d:=Z xt;refine bodyPost_ret (by simp[results,Tryz.results22,go_sem,Y d 0 rfl,Y d 1 rfl,Y d 2 rfl,Y d 3 rfl,Y d 4 rfl,Y d 5 rfl,Y d 6 rfl,Y d 7 rfl,Y d 8 rfl,Y d 9 rfl,Y d 10 rfl,Y d 11 rfl,Y d 12 rfl];try rfl) rfl ?_;rw[Z HEL,Z HEC];exact⟨0,none,0,0,tot0,none,0,rfl,⟨rfl,.inl ⟨rfl,rfl⟩⟩,Z vB⟩
theorem implExtract_any (v:Value)(l:List Int)(w:World)(hr:Rd w v l)(xC:dR v)(A:Bts l)(hE:ErrT w) :
  Calls Tryz.prog 13 #[v] w fun e w'=>∃u,e=ym (.tuple #[u,H (exC l)])/\w'.ownsRow w.heap.size 57 8 u (exL l).length ((exL l).flatMap Cm.vs)/\yn w w':=by
 have ug:=Q (lawful_any v l w hr xC A hE);unfold LtE at ug;generalize exL l=EL at ug |-;generalize exC l=EC at ug |-;clear hr xC A hE;go_enter Tryz.func13,Tryz.ntmps13;go_wp2_with fail;refine(Z ug).mono ?_;rintro e w1 ⟨n,qa,qn,qc,t,ta,tc,rfl,K,xR⟩;have HO:=Q (fP K ((Below.refl w1.heap.size w1).alloc ya (J #[H n,.slice qa qn qc,H t.gr,H t.ac,H t.rf,H t.tr,H t.vo,H t.no,H t.li,H t.le,.slice ta EL.length tc,H (pkO EL),H (pkL EL)] 45)));have HB:=Q (xR.alloc xR.size (J #[H n,.slice qa qn qc,H t.gr,H t.ac,H t.rf,H t.tr,H t.vo,H t.no,H t.li,H t.le,.slice ta EL.length tc,H (pkO EL),H (pkL EL)] 45));clear K xR ug;go_wp2_with fail;go_ret2;exact⟨_,rfl,Z HO,Z HB⟩
theorem implPeak_any (v:Value)(l:List Int)(w:World)(hr:Rd w v l)(xC:dR v)(A:Bts l)(hE:ErrT w) :
  Calls Tryz.prog 19 #[v] w fun e w'=>e=ym (.tuple #[H (pkO (exL l)),H (pkL (exL l)),H (exC l)])/\yn w w':=by
 have ug:=Q (lawful_any v l w hr xC A hE);unfold LtE at ug;generalize exL l=EL at ug |-;generalize exC l=EC at ug |-;clear hr xC A hE;go_enter Tryz.func19,Tryz.ntmps19;go_wp2_with fail;refine(Z ug).mono ?_;rintro e w1 ⟨n,qa,qn,qc,t,ta,tc,rfl,K,xR⟩;have HX:=Q (zj w1 [H n,.slice qa qn qc,H t.gr,H t.ac,H t.rf,H t.tr,H t.vo,H t.no,H t.li,H t.le,.slice ta EL.length tc,H (pkO EL),H (pkL EL)] 45);have HB:=Q (xR.alloc xR.size (J #[H n,.slice qa qn qc,H t.gr,H t.ac,H t.rf,H t.tr,H t.vo,H t.no,H t.li,H t.le,.slice ta EL.length tc,H (pkO EL),H (pkL EL)] 45));clear K xR ug;go_wp2_with fail;generalize (w1.alloc (J #[H n,.slice qa qn qc,H t.gr,H t.ac,H t.rf,H t.tr,H t.vo,H t.no,H t.li,H t.le,.slice ta EL.length tc,H (pkO EL),H (pkL EL)] 45))=W2 at HX HB |-;generalize w1.heap.size=b at HX |-;have x11:=Y (Z HX) 11 rfl;have x12:=Y (Z HX) 12 rfl;go_quiet (fail);go_wp2_with fail;refine bodyPost_ret (by simp[results,Tryz.results19,go_sem];try rfl) rfl ?_;exact⟨rfl,zp (Z HB) _⟩
theorem gT (v:Value)(l:List Int)(w:World)(hr:Rd w v l) :
  Calls Tryz.prog 9 #[v] w fun e w'=>∃v',e=ym v'/\OwnT w.heap.size w' v' l/\yn w w':=by
 obtain⟨a,cap,rfl,hl,hc⟩:=hr;obtain⟨i0,hi,uE,uw,uC⟩:=info_parts Tryz.infoByte
 have xp:∀k,k<l.length->∃b off,a=some (U b off)/\b<w.heap.size/\w.cell? (U b (off+k))=some (.int .u8 (l.getD k 0)):=by
  intro k X;obtain⟨b,off,D,E⟩:=hc (by intro h;rw[h] at X;simp at X);exact⟨b,off,D,yK w _ (E k X),E k X⟩
 have HC:=Q xp;clear xp hc;go_enter Tryz.func9,Tryz.ntmps9;go_wp2_with (at_make;go_must (refine wpList_make_full _ rfl _ _ 22 rfl w.heap.size 5 i0 (.int .u8 0) 1 Tryz.underlying22 hi uE uw _ _ _ _ l.length rfl rfl rfl rfl (by rw[uC];omega) (by unfold maxLen;omega) ya ?_);intro w1 xL oR);have HA:=Q (arr_made xL oR);clear xL oR;go_loopw [4] (fun i wr=>∃k:Nat,k<=l.length/\i=H k/\Arr l.length w.heap.size w wr (l.take k)) (fun i _=>l.length-(intOf i).toNat)
 case atStart=>exact⟨0,Nat.zero_le _,rfl,by simpa using Z HA⟩
 case round =>
  obtain⟨k,X,rfl,jW⟩:=hrel
  by_cases xH:k<l.length
  ·obtain⟨b,off,rfl,A,xm⟩:=Z HC k xH;have uq:(k:Int)<l.length:=by omega
   have bx:=(jW.below.cell (p:=(U b (off+k))) A).trans xm;obtain⟨v0,hv0⟩:=jW.some xH;have hf0:=jW.free k;have jR:=arr_step (l.getD k 0) jW (by rw[List.length_take];omega);rw[<- take_get l k xH,show(l.take k).length=k by rw[List.length_take];omega] at jR;have HS:=Q jR;clear jR jW xm A;generalize l.getD k 0=x at *;go_wp2_with fail;go_roundw
   case rel=>exact⟨k+1,by omega,by go_num,Z HS⟩
   case measure=>simp[intOf];omega
  ·go_wp2_with fail;go_ret;rw[yZ (by omega)] at jW;exact⟨_,rfl,arr_own jW rfl hl,jW.below⟩
theorem lC (va vb:Value)(l:List Int)(w:World)(ha:Rd w va l)(A:Rd w vb l) :
  Calls Tryz.prog 11 #[va,vb] w fun e w'=>e=ym (.bool true)/\∃n,w'=w.drewN n:=by
 obtain⟨aa,ca,rfl,hl,hca⟩:=ha;obtain⟨ab,cb,rfl,_,hcb⟩:=A
 by_cases xy:l = []
 ·subst xy;clear hca hcb;go_enter Tryz.func11,Tryz.ntmps11;go_wp2;refine wp_loop_rounds 1 ?_;rw[rounds_succ];go_wp2;go_ret;exact⟨rfl,0,rfl⟩
 obtain⟨b1,o1,rfl,qV⟩:=hca xy;obtain⟨b2,o2,rfl,hc2⟩:=hcb xy;have H1:=Q qV;have H2:=Q hc2;clear hca hcb qV hc2;go_enter Tryz.func11,Tryz.ntmps11;go_wp2_with fail;go_loopw [5] (fun i wr=>∃k n:Nat,k<=l.length/\i=H k/\wr=w.drewN n) (fun i _=>l.length-(intOf i).toNat)
 case atStart=>exact⟨0,0,Nat.zero_le _,rfl,rfl⟩
 case round =>
  obtain⟨k,n,X,rfl,rfl⟩:=hrel
  by_cases xH:k<l.length
  ·have D:=Z H1 k xH;have E:=Z H2 k xH;generalize l.getD k 0=x at D E;have uq:(k:Int)<l.length:=by omega
   go_wp2_with fail;go_quiet (fail);go_wp2_with fail;go_roundw
   case rel=>exact⟨k+1,_,by omega,by go_num,rfl⟩
   case measure=>simp[intOf];omega
  ·go_wp2_with fail;go_ret;exact⟨rfl,_,rfl⟩
def mkb (x:Int):Int:=x % 256
theorem mark_step {w wr:World}{g o i len:Nat}{k:Int}(hi:i<len)
  (hd:∀j,j<i->wr.cell? (U g (o+j))=some (.int .u8 (mkb (k+j)))) (hc:∀j,j<len->∃v,wr.cell? (U g (o+j))=some v)
  (hf:∀j,j<len->wr.frozen? (U g (o+j))=false) (M:w.grownBy wr (some g)) {x:Int} (hx:x=mkb (k+i)) :
  (∀j,j<i+1->(wr.setCell (U g (o+i)) (.int .u8 x)).cell? (U g (o+j))=some (.int .u8 (mkb (k+j)))) /\
  (∀j,j<len->∃v,(wr.setCell (U g (o+i)) (.int .u8 x)).cell? (U g (o+j))=some v) /\
  (∀j,j<len->(wr.setCell (U g (o+i)) (.int .u8 x)).frozen? (U g (o+j))=false)/\w.grownBy (wr.setCell (U g (o+i)) (.int .u8 x)) (some g):=by
 obtain⟨v0,h0⟩:=hc i hi;refine⟨fun j hj=>?_,fun j hj=>?_,fun j hj=>?_,zC M (eF wr (U g (o+i)) _)⟩
 ·by_cases e:j=i
  ·subst e;rw[yM _ _ _ h0,hx]
  ·rw[yL _ _ _ _ (eu (by omega))];exact hd j (by omega)
 ·by_cases e:j=i
  ·subst e;exact⟨_,yM _ _ _ h0⟩
  ·rw[yL _ _ _ _ (eu (by omega))];exact hc j hj
 ·rw[World.frozen?_setCell];exact hf j hj
theorem markBytes_any (g o len cap:Nat)(k:Int)(w:World)(hl:len<=1073741824)(oB:0<=k)(hk1:k<=1073741824)
  (hc:∀j,j<len->∃v,w.cell? (U g (o+j))=some v) (hf:∀j,j<len->w.frozen? (U g (o+j))=false) :
  Calls Tryz.prog 15 #[.slice (some (U g o)) len cap,H k] w fun e w'=>e=ym (H (k+len)) /\
   (∀j,j<len->w'.cell? (U g (o+j))=some (.int .u8 (mkb (k+j))))/\(∀j,j<len->w'.frozen? (U g (o+j))=false)/\w.grownBy w' (some g):=by
 have HC:=Q hc;have HF:=Q hf;clear hc hf;go_enter Tryz.func15,Tryz.ntmps15;go_wp2_with fail
 go_loopw [1,5] (fun kv i wr=>∃n:Nat,n<=len/\i=H n/\kv=H (k+n)/\(∀j,j<n->wr.cell? (U g (o+j))=some (.int .u8 (mkb (k+j)))) /\
   (∀j,j<len->∃v,wr.cell? (U g (o+j))=some v)/\(∀j,j<len->wr.frozen? (U g (o+j))=false)/\w.grownBy wr (some g)) (fun _ i _=>len-(intOf i).toNat)
 case atStart=>exact⟨0,Nat.zero_le _,rfl,by go_num,by intro j hj;omega,Z HC,Z HF,yR _ _⟩
 case round =>
  obtain⟨n,hn,rfl,rfl,hd,hc,hf,M⟩:=hrel
  by_cases xH:n<len
  ·obtain⟨v0,h0⟩:=hc n xH;have D:=hf n xH;have R:=Q (fun x=>@mark_step w wr g o n len k xH hd hc hf M x);have uq:(n:Int)<len:=by omega
   clear hd hc hf M;go_wp2_with fail;go_roundw
   case rel=>exact⟨n+1,by omega,by go_num,by go_num,(Z R) _ (by rfl)⟩
   case measure=>simp[intOf];omega
  ·go_wp2_with fail;go_ret;obtain rfl:n=len:=by omega
   exact⟨rfl,hd,hf,M⟩
def marks (n:Nat):List Int:=(List.range n).map fun(i:Nat)=>mkb (1+i)
theorem marks_len (n:Nat):(marks n).length=n:=by simp[marks]
theorem marks_get {n j:Nat}(h:j<n):(marks n).getD j 0=mkb (1+j):=by simp[marks,h]
theorem mark_own {B:Nat}(v:Value)(l:List Int)(w:World)(h:Own B w v l) :
  Calls Tryz.prog 15 #[v,H 1] w fun e w'=>e=ym (H (1+l.length))/\Own B w' v (marks l.length)/\∃g,v.ownBlock=some g/\B<=g/\w.grownBy w' (some g):=by
 obtain⟨g,cap,rfl,D,E,hl,hc,hf⟩:=h;refine(markBytes_any g 0 l.length cap 1 w hl (by omega) (by omega) (fun j hj=>⟨_,hc j hj⟩) hf).mono ?_;rintro e w' ⟨rfl,hm,hf',M⟩;refine⟨rfl,⟨g,cap,by rw[marks_len],D,yJ E M.size,by rw[marks_len];exact hl,fun i hi=>?_,fun i hi=>?_⟩,g,rfl,D,M⟩
 ·rw[marks_len] at hi;rw[marks_get hi];exact hm i hi
 ·rw[marks_len] at hi;exact hf' i hi
theorem zero_read:FloatKind.f64.format.read 0 = .number false 0 FloatKind.f64.format.leastPlace:=by decide
theorem one_read:∃m j,FloatKind.f64.format.read 4607182418800017408 = .number false m j/\m≠0:=⟨_,_,rfl,by decide⟩
theorem zero_mag (s:Bool)(m a b:Nat)(h:Ieee.signed s m a=Ieee.signed false 0 b):m=0:=by
 have h0:Ieee.signed false 0 b=0:=by simp[Ieee.signed]
 rw[h0] at h
 have E:m <<< a=0:=by
  cases s
  ·have h':((m <<< a:Nat):Int)=0:=h;omega
  ·have h':-((m <<< a:Nat):Int)=0:=h;omega
 rw[Nat.shiftLeft_eq] at E;have:=Nat.two_pow_pos a;rcases Nat.mul_eq_zero.1 E with h|h
 ·exact h
 ·omega
theorem div_zero (x:Nat)(h:FloatKind.f64.format.order x 0=some Ordering.eq):∃r,FloatKind.f64.format.div 4607182418800017408 x=some r:=by
 obtain⟨m1,j1,D,cB⟩:=one_read;unfold Ieee.Format.order at h;rw[zero_read] at h;unfold Ieee.Format.div;rw[D];cases hx:FloatKind.f64.format.read x with
 | nan s f=>rw[hx] at h;simp[Ieee.Datum.order] at h
 | infinity s=>rw[hx] at h;cases s <;> simp[Ieee.Datum.order] at h
 | number s m i =>
  rw[hx] at h;simp only[Ieee.Datum.order,Option.some.injEq] at h;have hm:=zero_mag s m _ _ (Std.LawfulEqCmp.eq_of_compare h);subst hm;exact⟨FloatKind.f64.format.write (.infinity s),by simp[Ieee.Datum.quotient,cB]⟩
theorem sameFloat_any (x:Nat)(w:World) :
  Calls Tryz.prog 33 #[yj x,yj x] w fun e w'=>e = .returned (.bool true)/\w'=w:=by
 cases hn:nanB x with
 | true =>
  have h':(FloatKind.f64.format.order x x != some Ordering.eq)=true:=hn;clear hn;go_enter Tryz.func33,Tryz.ntmps33;go_wp2;go_ret;exact⟨rfl,rfl⟩
 | false =>
  have h':(FloatKind.f64.format.order x x != some Ordering.eq)=false:=hn;have E:FloatKind.f64.format.order x x=some Ordering.eq:=by simpa using h'
  clear hn
  by_cases hz:FloatKind.f64.format.order x 0=some Ordering.eq
  ·obtain⟨r,hr⟩:=div_zero x hz;have hq:∀W,(binOp .quo 55 (yj 4607182418800017408) (yj x)).run Tryz.prog W = .ok (yj r) W:=fun W=>by simp[binOp,Op.floatArith,hr]
   have hz':(FloatKind.f64.format.order x 0==some Ordering.eq)=true:=by rw[hz];rfl
   clear hz hr;go_enter Tryz.func33,Tryz.ntmps33;go_wp2
   all_goals go_ret
   all_goals exact⟨zO (by simp),rfl⟩
  ·have hz':(FloatKind.f64.format.order x 0==some Ordering.eq)=false:=by simpa using hz
   clear hz;go_enter Tryz.func33,Tryz.ntmps33;go_wp2;go_ret;exact⟨zO (by simp),rfl⟩
theorem eqCmd_same (c:Cm)(w:World) :
  Calls Tryz.prog 23 #[.agg (yx c.k c.s c.t c.l c.q c.i c.p c.g).toArray,.agg (yx c.k c.s c.t c.l c.q c.i c.p c.g).toArray] w fun e w' =>
   e = .returned (.bool true)/\yn w w':=by
 obtain⟨k,s,t,l,q,i,p,g⟩:=c;simp only;go_enter Tryz.func23,Tryz.ntmps23;go_wp2_with (go_at_call 33;refine(sameFloat_any _ _).mono ?_;rintro e w' ⟨rfl,rfl⟩);go_returns;refine⟨rfl,?_⟩;go_grown
theorem eqCmdS_same (va vb:Value)(l:List Cm)(w:World)(ha:RdR Cm.vs 8 w va l)(A:RdR Cm.vs 8 w vb l) :
  Calls Tryz.prog 14 #[va,vb] w fun e w'=>e=ym (.bool true)/\yn w w':=by
 obtain⟨aa,ca,rfl,hl,hca⟩:=ha;obtain⟨ab,cb,rfl,_,hcb⟩:=A
 have xp:∀(k:Nat) (c:Cm),l[k]? = some c->∃b off b' oW,aa=some (U b off)/\ab=some (U b' oW)/\b<w.heap.size/\b'<w.heap.size/\w.rangeAt b (off+k*8) c.vs/\w.rangeAt b' (oW+k*8) c.vs:=by
  intro k c X;have xy:l ≠ []:=by intro h;rw[h] at X;simp at X
  obtain⟨b,off,D,E,h3⟩:=hca xy;obtain⟨b',oW,h1',h2',h3'⟩:=hcb xy;exact⟨b,off,b',oW,D,h1',E,h2',h3 k c X,h3' k c X⟩
 have HC:=Q xp;clear xp hca hcb;go_enter Tryz.func14,Tryz.ntmps14;go_wp2_with fail;go_loopw [5] (fun i wr=>∃k:Nat,k<=l.length/\i=H k/\yn w wr) (fun i _=>l.length-(intOf i).toNat)
 case atStart=>exact⟨0,Nat.zero_le _,rfl,Below.refl _ _⟩
 case round =>
  obtain⟨k,X,rfl,xk⟩:=hrel;have HB:=Q xk;clear xk
  by_cases xH:k<l.length
  ·obtain⟨c,qk⟩:∃c,l[k]? = some c:=⟨_,yH xH⟩;obtain⟨b,off,b',oW,rfl,rfl,A,cj,xm,kL⟩:=Z HC k c qk;obtain⟨g0,g1,g2,g3,g4,g5,g6,g7⟩:=cm_cells (zd xm (Z HB) A);obtain⟨e0,e1,e2,e3,e4,e5,e6,e7⟩:=cm_cells (zd kL (Z HB) cj);have uq:(k:Int)<l.length:=by omega
   clear qk xm kL A cj;go_wp2_with fail
   go_region_with (go_at_call 23;refine(eqCmd_same c _).mono ?_;rintro e w2 ⟨rfl,xE⟩;have xq:=Q ((Z HB).drew.trans (xE.mono (Z HB).drew.size));clear xE)
   go_wp2_with fail;go_roundw
   case rel=>exact⟨k+1,by omega,by go_num,Z xq⟩
   case measure=>simp[intOf];omega
   all_goals exact⟨⟨k+1,by omega,by go_num,Z xq⟩,by simp[intOf];omega⟩
  ·go_wp2_with fail;go_ret;exact⟨rfl,Z HB⟩
end Go.Proofs.YtbghmldggahjiaaGreatDoor
