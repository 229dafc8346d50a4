/-.-/
import Derived.Test.YtkofhemdefffpaaGreatDoorPq47
set_option linter.unusedVariables false
set_option maxHeartbeats 6400000
set_option maxRecDepth 100000
namespace Go.Proofs.YtkofhemdefffpaaGreatDoor
open Go.RowKit
theorem infoCJ:(Tryz.prog.info? 37).map (fun i=>(i.zero,i.size,i.bytes))=some (some (.agg (yy 0 0 0 0 0 0 0 ⟨#[]⟩).toArray),8,72):=by kernel_rfl
theorem max_run (a c:Nat)(W:World):(Builtin.max_ #[3,3] 3 #[H a,H c]).run Tryz.prog W = .ok (H ((max a c:Nat):Int)) W:=by
 by_cases uJ:a<=c
 ·rw[Nat.max_eq_right uJ];go_simp;omega
 ·rw[Nat.max_eq_left (by omega)];go_simp;omega
theorem one_cm (c:Cm):∀u∈c.vs,u.oneCell'=true:=by
 intro u hu;simp[Cm.vs] at hu;rcases hu with rfl|rfl|rfl|rfl|rfl|rfl|rfl|rfl <;> rfl
theorem own_typ {w:World}{B e sz n b:Nat}{v:Value}{xs:List Value}(h:w.ownsRow B e sz v n xs)(K:v.ownBlock=some b):∃xt,w.heap[b]? = some (.cells xt e (0,0)):=by
 rcases h.2 with⟨rfl,_⟩|⟨g,cap,xt,rfl,_,F,_⟩
 ·cases K
 ·cases K;exact⟨xt,F⟩
def sdV (sd:Int)(b:Nat):Value:=if sd=1 then fj b else fm b
def TrA (L:List Od)(sd:Int)(V:World)(b:Nat):Prop:=if sd=1 then dI 261 true V b 1 (zC L 1) else dI 264 false V b 2 (zC L 2)
structure CG (zb B C bk:Nat) (w:World) (vt0 va vb:Value) (N:Int) (L:List Od) (es:List Ev) (vs:List Value) (vt:Value) (tl:List Cm) (W:World):Prop where
 kp:Kp zb vt0 w W
 box:Bx W zb vs
 typ:∃cur,W.heap[zb]? = some (.cells cur 46 (0,0))
 told:W.ownsRow B 37 8 vt tl.length (tl.flatMap Cm.vs)
 bkx:Bx W bk [.int .i64 N,vb]
 row:ORow W B vb L
 rd:ERow W C va es
 jl:zb<W.heap.size
 kl:bk<W.heap.size
 ne:bk≠zb
section
variable {zb B C bk:Nat} {w:World} {vt0 va vb:Value} {N:Int} {L:List Od} {es:List Ev} {vs:List Value} {vt:Value} {tl:List Cm} {W W':World}
theorem cg_below (h:CG zb B C bk w vt0 va vb N L es vs vt tl W)(K:yp W W'):CG zb B C bk w vt0 va vb N L es vs vt tl W':=by
 obtain⟨xt,hc⟩:=h.typ;exact⟨dU h.kp K,zl h.box K h.jl,⟨xt,(K.block zb h.jl).trans hc⟩,own_keep h.told K,zl h.bkx K h.kl,zn h.row K,zO h.rd K,yK h.jl K.size,yK h.kl K.size,h.ne⟩
theorem cg_kp (v:Value)(h:CG zb B C bk w vt0 va vb N L es vs vt tl W)(E:Kp zb v W W')(hv:∀b,v.ownBlock=some b->vt0.ownBlock=some b/\(∃xt,W.heap[b]? = some (.cells xt 37 (0,0)))/\b≠bk){vs':List Value}{ow:Value}{tl':List Cm}(hx:Bx W' zb vs')(ht:∃xt,W'.heap[zb]? = some (.cells xt 46 (0,0)))(D:W'.ownsRow B 37 8 ow tl'.length (tl'.flatMap Cm.vs)):CG zb B C bk w vt0 va vb N L es vs' ow tl' W':=by
 have apart:∀ {B e sz n:Nat} {u:Value} {xs:List Value},W.ownsRow B e sz u n xs->37 ≠ e->u.ownBlock=none\/u.ownBlock≠v.ownBlock:=fun {B e sz n u xs} D xE=>by
  cases hvb:v.ownBlock with
  | none=>cases hu:u.ownBlock with
   | none=>exact .inl rfl
   | some x=>exact .inr (by simp)
  | some b=>exact .inr fun e=>zF D (hv b hvb).2.1 xE (by rw[e])
 refine⟨⟨E.os.trans h.kp.os,E.tape.trans h.kp.tape,E.output.trans h.kp.output,yO h.kp.size E.size,fun k hl Z Q=>?_⟩,hx,ht,D,?_,kp_own h.row E (zF h.row h.typ (by decide)) (apart h.row (by decide)),kp_own h.rd E (zF h.rd h.typ (by decide)) (apart h.rd (by decide)),yK h.jl E.size,yK h.kl E.size,h.ne⟩
 ·exact(E.block k (yK hl h.kp.size) Z (fun e=>Q (hv k e.symm).1.symm)).trans (h.kp.block k hl Z Q)
 ·exact dm h.bkx (E.block bk h.kl h.ne (fun e=>(hv bk e.symm).2.2 rfl))
theorem fF (h:CG zb B C bk w vt0 va vb N L es vs vt tl W)(j:Nat)(u:Value)(hj:j<vs.length):CG zb B C bk w vt0 va vb N L es (vs.set j u) vt tl (W.setCell (Y zb j) u):=
 cg_kp (.slice none 0 0) h (kp_set (kp_of (Below.refl _ _)) j u) (fun b K=>by cases K) (eO h.box hj) (gT h.typ) (zX h.told (zF h.told h.typ (by decide)) j u)
end
theorem jgClose_any:CloseG:=by
 intro zb B cs vq vt e0 r va vb C w h oZ xC kH E hE xN;have hsf:=sfl;obtain⟨i0,hi,ub,xX,uh⟩:=info_parts infoCJ;have hJl:=h.lt;have xY:RdR Ev.vs 14 w va (e0::r):=ownR_rd (gi Ev.len (by omega) kH);have qK:=U (fun W=>toldCmd_any e0 W E);have HRN:=U (run_snoc cs (da e0));unfold rstep at HRN;rw[<- hE] at HRN;generalize stN (runS cs).n (runS cs).l (da e0)=N at HRN;generalize stL (runS cs).n (runS cs).l (da e0)=L at xN HRN;have HPO:=U (pkO_snoc cs (da e0));have kU:=U (pkL_snoc cs (da e0));rw[O HRN] at HPO kU;have oI:=(iu (cs ++ [da e0]) (by simp;omega)).1;rw[O HRN] at oI;have qf:Hid (GoodL L):=oI.good;have bF:Hid (∀o∈L,o.side=1\/o.side=2):=oI.side;clear hE E oI;generalize da e0=tc at qK HRN HPO kU |-;obtain⟨tk_,ts,tt,tl,tq,ti,tp,tg⟩:=tc;have vL:=h.box;have htp:=h.typ;have htl:=h.told;have hJB:=h.hJ;have HVL:Hid (∀b,vt.ownBlock=some b->b<w.heap.size):=fun b K=>(h.told.lt b K).2;unfold jgV at vL
 have HFN:Hid (∀W ow,Bx W zb [H N,vb,H (wgT (runS cs).t (e0::r)).gr,H (wgT (runS cs).t (e0::r)).ac,H (wgT (runS cs).t (e0::r)).rf,H (wgT (runS cs).t (e0::r)).tr,H (wgT (runS cs).t (e0::r)).vo,H (wgT (runS cs).t (e0::r)).no,H (wgT (runS cs).t (e0::r)).li,H (wgT (runS cs).t (e0::r)).le,ow,H (max (pkO cs) L.length:Nat),H (max (pkL cs) (nlev L):Nat)]->(∃xt,W.heap[zb]? = some (.cells xt 46 (0,0)))->ORow W B vb L->W.ownsRow B 37 8 ow (cs.length+1) (cs.flatMap Cm.vs++Cm.vs ⟨tk_,ts,tt,tl,tq,ti,tp,tg⟩)->JG zb B W (cs ++ [⟨tk_,ts,tt,tl,tq,ti,tp,tg⟩]) vb ow):=fun W ow Z Q I h4=>by
  refine⟨?_,Q,?_,?_,hJB⟩
  ·unfold jgV;rw[O HRN,O HPO,O kU];simpa using Z
  ·rw[O HRN];exact I
  ·simpa using h4
 clear h HRN HPO kU;generalize (runS cs).n=n0 at vL;generalize (runS cs).t=t0 at vL HFN;generalize pkO cs=po at vL HFN;generalize pkL cs=pl at vL HFN;obtain⟨ba,bc,rfl⟩:=gy xN;obtain⟨a,c,rfl,-,hc⟩:=id xY;obtain⟨b,off,rfl,hbl,hc⟩:=hc (by simp);have jM:=hc 0 e0 rfl;simp only[Nat.zero_mul,Nat.add_zero] at jM;have xS:=mc w (me #[H N,(.slice ba L.length bc)] 31)
 have HCG:Hid (CG zb B C w.heap.size w vt (.slice (some (Y b off)) (e0::r).length c) (.slice ba L.length bc) N L (e0::r) [H n0,vq,H t0.gr,H t0.ac,H t0.rf,H t0.tr,H t0.vo,H t0.no,H t0.li,H t0.le,vt,H po,H pl] vt cs (w.alloc (me #[H N,(.slice ba L.length bc)] 31))):=by
  obtain⟨xt,hc⟩:=htp;exact⟨kp_of xS,zl vL xS hJl,⟨xt,(xS.block zb hJl).trans hc⟩,own_keep htl xS,zo w [H N,(.slice ba L.length bc)] 31,zn xN xS,zO kH xS,yK hJl xS.size,by simp,by omega⟩
 have jo:w.heap.size<(w.alloc (me #[H N,(.slice ba L.length bc)] 31)).heap.size:=by simp
 obtain⟨g0,g1,g2,g3,g4,g5,g6,g7,g8,g9,kN,jR,ql,pA⟩:=ev_cells (zf jM xS hbl);have hln:(0:Int)<((r.length+1:Nat):Int):=by omega
 have HLE:Hid ((e0::r).length<=8192):=xC;clear kH xN xY hc vL htp htl jM xS xC;unfold evV cmV at qK;simp only at qK;go_enter Tryz.func81,Tryz.ntmps81;go_wp2_with fail;generalize (w.alloc (me #[H N,(.slice ba L.length bc)] 31))=W0 at HCG jo g0 g1 g2 g3 g4 g5 g6 g7 g8 g9 kN jR ql pA |-;refine(O qK W0).mono ?_;rintro e w1 ⟨rfl,ud⟩;obtain⟨kC,xR⟩:=mh w1 (yy tk_ ts tt tl tq ti tp tg) 37;have xy:=ud.trans (kC.mono ud.size);have kr:=U (cg_below (O HCG) xy);have xG:=ud.size;have ug:w1.heap.size<(w1.alloc (me (yy tk_ ts tt tl tq ti tp tg).toArray 37)).heap.size:=by simp
 clear g0 g1 g2 g3 g4 g5 g6 g7 g8 g9 kN jR ql pA HCG ud xy kC qK;go_wp2_with fail;generalize (w1.alloc (me (yy tk_ ts tt tl tq ti tp tg).toArray 37))=W2 at kr xR ug |-;have hj10:=J (O kr).box 10 rfl;have hf10:=zg (O kr).box 10 (by show 10<13;decide);obtain⟨m0,m1,m2,m3,m4,m5,m6,m7⟩:=yA (O xR);have hneJ:some zb≠vt.ownBlock:=zF (O kr).told (O kr).typ (by decide);have hJ2:zb<W2.heap.size:=by omega
 have hM2:w1.heap.size<W2.heap.size:=ug;have pP:w.heap.size<W2.heap.size:=by omega
 rename_i hb hK;have HK:=U hK;clear hK;refine(fun(HT:Hid (∀(g cap:Nat) (W3:World),CG zb B C w.heap.size w vt (.slice (some (Y b off)) (e0::r).length c) (.slice ba L.length bc) N L (e0::r) [H n0,vq,H t0.gr,H t0.ac,H t0.rf,H t0.tr,H t0.vo,H t0.no,H t0.li,H t0.le,(.slice (some (Y g 0)) (cs.length+1) cap),H po,H pl] (.slice (some (Y g 0)) (cs.length+1) cap) (cs ++ [⟨tk_,ts,tt,tl,tq,ti,tp,tg⟩]) W3->hb ((?A:Nat->Nat->Act) g cap) W3))=>?main) ?ht
 case main =>
  go_region_law ((refine step_append_lies _ (by rfl) _ _ _ (by rfl) B 37 i0 _ 8 72 Tryz.underlying23 hi ub xX uh rfl (by decide) _ cs.length (cs.flatMap Cm.vs) (by rfl) (own_keep (O kr).told ((Below.refl W2.heap.size W2).alloc yb _).drew) (yr W2 0) 1 1 (Cm.vs ⟨tk_,ts,tt,tl,tq,ti,tp,tg⟩) (by rfl) rfl (cellsJ rfl _ _) (one_cm _) (by decide) (by unfold maxLen;omega) (by omega) (by show B<=(W2.alloc _).heap.size;rw[zi];omega) (W2.heap.size+1) (by simp) ?_;intro g cap w3 aD ua hat3 hlt3;have cE:=(ua.cell_far (Y zb 10) (by show zb<(W2.alloc _).heap.size;rw[zi];omega) hneJ).trans ((((Below.refl W2.heap.size W2).alloc yb _).drew.cell (p:=(Y zb 10)) (by show zb < _;omega)).trans hj10);have kI:=(ua.frozen_far (Y zb 10) (by show zb<(W2.alloc _).heap.size;rw[zi];omega) hneJ).trans ((World.frozen?_of_block (a:=(Y zb 10)) (((Below.refl W2.heap.size W2).alloc yb _).drew.block zb (by omega))).trans hf10)))
  all_goals
   refine O HT g cap _ ?_;have hkp:Kp zb vt W2 (w3.setCell (Y zb 10) (.slice (some (Y g 0)) (cs.length+1) cap)):=kp_set (kp_kp (kp_of ((Below.refl W2.heap.size W2).alloc yb (me (yy tk_ ts tt tl tq ti tp tg).toArray 37)).drew) ⟨ua.os,ua.tape,ua.output,ua.size,fun k E _ Q=>ua.block k E Q⟩) _ _;have hbJ:w3.heap[zb]? = W2.heap[zb]?:=(ua.block zb (by show zb<(W2.alloc _).heap.size;rw[zi];omega) hneJ).trans (((Below.refl W2.heap.size W2).alloc yb _).drew.block zb hJ2);refine cg_kp vt (O kr) hkp (fun b K=>⟨K,?_,?_⟩) (eO (j:=10) (dm (O kr).box ?_) (by show 10<13;decide)) (gT ?_) ?_
   ·exact own_typ (O kr).told K
   ·have:=O HVL b K;omega
   ·exact hbJ
   ·obtain⟨xt,hc⟩:=(O kr).typ;exact⟨xt,hbJ.trans hc⟩
   ·have hty:∃xt,w3.heap[zb]? = some (.cells xt 46 (0,0)):=by obtain⟨xt,hc⟩:=(O kr).typ;exact⟨xt,hbJ.trans hc⟩
    simpa using zX aD (zF aD hty (by decide)) 10 _
 case ht =>
  intro g cap W3 aY;have jO:=U aY;refine O HK _ _ ?_;clear HK kr xR aY hj10 hf10 m0 m1 m2 m3 m4 m5 m6 m7 hneJ hJ2 hM2 pP xG ug;obtain ⟨z0,z1,z2,z3,z4,z5,z6,z7,z8,z9,kI,ox,oO⟩:=q0_13 ((O jO).box) rfl;have HWG:=U (fun W hW=>withGroup_any t0 (.slice (some (Y b off)) (e0::r).length c) (e0::r) W hW);go_wp2_with fail;refine(O HWG W3 (ownR_rd (gi Ev.len (by have:=O HLE;omega) (O jO).rd))).mono ?_;rintro e w4 ⟨rfl,xF⟩;have ja:=U (cg_below (O jO) xF);generalize wgT t0 (e0::r)=t1 at HFN |-;clear z0 z1 z2 z3 z4 z5 z6 z7 z8 z9 kI ox oO jO xF HWG;obtain ⟨z0,z1,z2,z3,z4,z5,z6,z7,z8,z9,kI,ox,oO⟩:=q0_13 ((O ja).box) rfl;obtain ⟨f0,f1,f2,f3,f4,f5,f6,f7,f8,f9,f10,f11,f12⟩:=r0_13 ((O ja).box) rfl;have q0:=J (O ja).bkx 0 rfl;have q1:=J (O ja).bkx 1 rfl;have hnk:w.heap.size≠zb:=(O ja).ne;have HC5:Hid (CG zb B C w.heap.size w vt (.slice (some (Y b off)) (e0::r).length c) (.slice ba L.length bc) N L (e0::r) [H N,(.slice ba L.length bc),H t1.gr,H t1.ac,H t1.rf,H t1.tr,H t1.vo,H t1.no,H t1.li,H t1.le,(.slice (some (Y g 0)) (cs.length+1) cap),H po,H pl] (.slice (some (Y g 0)) (cs.length+1) cap) (cs ++ [⟨tk_,ts,tt,tl,tq,ti,tp,tg⟩]) ((((((((((w4.setCell (Y zb 2) (H t1.gr)).setCell (Y zb 3) (H t1.ac)).setCell (Y zb 4) (H t1.rf)).setCell (Y zb 5) (H t1.tr)).setCell (Y zb 6) (H t1.vo)).setCell (Y zb 7) (H t1.no)).setCell (Y zb 8) (H t1.li)).setCell (Y zb 9) (H t1.le)).setCell (Y zb 0) (H N)).setCell (Y zb 1) ((.slice ba L.length bc)))):=fF (fF (fF (fF (fF (fF (fF (fF (fF (fF (O ja) 2 (H t1.gr) (by show _ < 13;decide)) 3 (H t1.ac) (by show _ < 13;decide)) 4 (H t1.rf) (by show _ < 13;decide)) 5 (H t1.tr) (by show _ < 13;decide)) 6 (H t1.vo) (by show _ < 13;decide)) 7 (H t1.no) (by show _ < 13;decide)) 8 (H t1.li) (by show _ < 13;decide)) 9 (H t1.le) (by show _ < 13;decide)) 0 (H N) (by show _ < 13;decide)) 1 ((.slice ba L.length bc)) (by show _ < 13;decide);go_wp2_with fail;generalize ((((((((((w4.setCell (Y zb 2) (H t1.gr)).setCell (Y zb 3) (H t1.ac)).setCell (Y zb 4) (H t1.rf)).setCell (Y zb 5) (H t1.tr)).setCell (Y zb 6) (H t1.vo)).setCell (Y zb 7) (H t1.no)).setCell (Y zb 8) (H t1.li)).setCell (Y zb 9) (H t1.le)).setCell (Y zb 0) (H N)).setCell (Y zb 1) ((.slice ba L.length bc)))=W5 at HC5 |-;clear z0 z1 z2 z3 z4 z5 z6 z7 z8 z9 kI ox oO f0 f1 f2 f3 f4 f5 f6 f7 f8 f9 f10 f11 f12 q0 q1 ja;have HC5D:=U (cg_below (O HC5) (Below.refl W5.heap.size W5).drew);have ox:W5.drew.cell? (Y zb 11)=some (H po):=J (O HC5D).box 11 rfl;have f11:W5.drew.frozen? (Y zb 11)=false:=zg (O HC5D).box 11 (by show _ < 13;decide);have q1:W5.drew.cell? (yr w 1)=some (.slice ba L.length bc):=J (O HC5D).bkx 1 rfl;have HMX:=U (fun a c=>max_run a c);have hmax:∀W,(Builtin.max_ #[3,3] 3 #[H po,H L.length]).run Tryz.prog W = .ok (H ((max po L.length:Nat):Int)) W:=fun W=>O HMX _ _ W;refine ff 9 (by kernel_rfl) (by kernel_rfl) ?_;simp only[yU,List.take_zero,yV,List.drop_zero]
  repeat still_step
  refine wpStill_nil ?_;generalize max po L.length=po1 at hmax HFN |-;have HC6:Hid (CG zb B C w.heap.size w vt (.slice (some (Y b off)) (e0::r).length c) (.slice ba L.length bc) N L (e0::r) [H N,(.slice ba L.length bc),H t1.gr,H t1.ac,H t1.rf,H t1.tr,H t1.vo,H t1.no,H t1.li,H t1.le,(.slice (some (Y g 0)) (cs.length+1) cap),H po1,H pl] (.slice (some (Y g 0)) (cs.length+1) cap) (cs ++ [⟨tk_,ts,tt,tl,tq,ti,tp,tg⟩]) (W5.setCell (Y zb 11) (H po1)).drew):=fF (O HC5D) 11 (H po1) (by show _ < 13;decide);clear HC5;go_wp2_with fail;generalize (W5.setCell (Y zb 11) (H po1)).drew=W6 at HC6 |-;clear ox f11 q1 hmax HC5D;generalize Value.tuple #[.agg (yy tk_ ts tt tl tq ti tp tg).toArray,.bool (iw e0.kind)]=dA;generalize Value.agg (yy tk_ ts tt tl tq ti tp tg).toArray=dB;generalize Value.bool (iw e0.kind)=dC;generalize Value.agg (yw e0.kind e0.cmd.k e0.cmd.s e0.cmd.t e0.cmd.l e0.cmd.q e0.cmd.i e0.cmd.p e0.cmd.g e0.id e0.other e0.qty e0.price e0.reason).toArray=dD;generalize Value.agg #[H t0.gr,H t0.ac,H t0.rf,H t0.tr,H t0.vo,H t0.no,H t0.li,H t0.le]=dE;generalize Value.agg #[H t1.gr,H t1.ac,H t1.rf,H t1.tr,H t1.vo,H t1.no,H t1.li,H t1.le]=dF;have hJ6:=(O HC6).jl;have hk6:=(O HC6).kl;have zJ:W6.cell? (Y zb 12)=some (H pl):=J (O HC6).box 12 rfl;have fJ:W6.frozen? (Y zb 12)=false:=zg (O HC6).box 12 (by show _ < 13;decide);have qA:W6.cell? (yr w 0)=some (H N):=J (O HC6).bkx 0 rfl;have qB:W6.cell? (yr w 1)=some (.slice ba L.length bc):=J (O HC6).bkx 1 rfl;have HRV:Hid (∀V,yp W6 V->RdR Od.vs 6 V (.slice ba L.length bc) L):=fun V hV=>zZ (zn (O HC6).row hV) (by have:=(O qf).len;omega);have aP:Hid (∀o∈L,0<=o.left/\o.left<=1000000):=fun o D=>by have:=(O qf).left o D;omega
  have HSX:Hid (∀V sd,yp W6 V->(sd=1\/sd=2)->Calls Tryz.prog 110 #[.agg #[H N,.slice ba L.length bc],H sd] V fun e w'=>∃b,e=yn (sdV sd b)/\TrA L sd w' b/\(∀b',TrA L 1 V b'->TrA L 1 w' b')/\yp W6 w'):=fun V sd hV uF=>by
   rcases uF with rfl|rfl
   ·exact(lE N _ L V (O HRV V hV) (O qf).len (O aP)).mono fun e w' ⟨b,Z,Q,_,h4⟩=>⟨b,Z,Q,fun b' cO=>zI cO (h4.block b' (ed cO)),hV.trans (h4.mono hV.size)⟩
   ·exact(ly N 2 (by decide) _ L V (O HRV V hV) (O qf).len (O aP)).mono fun e w' ⟨b,Z,Q,_,h4⟩=>⟨b,Z,Q,fun b' cO=>zI (show dI 261 true V b' 1 (zC L 1) from cO) (h4.block b' (ed (show dI 261 true V b' 1 (zC L 1) from cO))),hV.trans (h4.mono hV.size)⟩
  have HCT:Hid (∀V b1 b2,yp W6 V->TrA L 1 V b1->TrA L 2 V b2->Calls Tryz.prog 109 #[sdV 1 b1,sdV 2 b2] V fun e w'=>e=yn (H (nlev L))/\yp W6 w'):=fun V b1 b2 hV Z Q=>by
   refine(lU b1 b2 1 2 _ _ V Z Q (yO (List.length_filter_le _ _) (O qf).len) (yO (List.length_filter_le _ _) (O qf).len)).mono fun e w' ⟨I,h4⟩=>⟨?_,hV.trans (h4.mono hV.size)⟩;rw[I,dS,dS,List.length_map,List.length_map];have:=nlev_eq (O bF) (eG true _) (eG false _);rw[this];simp
  have hmax:∀W,(Builtin.max_ #[3,3] 3 #[H pl,H (nlev L)]).run Tryz.prog W = .ok (H ((max pl (nlev L):Nat):Int)) W:=fun W=>O HMX _ _ W;generalize max pl (nlev L)=pl1 at hmax HFN;generalize nlev L=nl at hmax HCT;have hbD:yp W6 W6.drew:=(Below.refl _ _).drew;clear hbD;have hbD:Hid (yp W6 W6.drew):=(Below.refl _ _).drew
  go_region_with (first|(go_at_call 110;refine(O HSX _ _ (by first|exact hq|exact O hbD) (by decide)).mono ?_;rintro e w7 ⟨b1,rfl,ht1,hkp,hq⟩;have zE:=(hq.cell (p:=(Y zb 12)) hJ6).trans zJ;have fE:=(World.frozen?_of_block (a:=(Y zb 12)) (hq.block zb hJ6)).trans fJ;have q0E:=(hq.cell (p:=(yr w 0)) hk6).trans qA;have q1E:=(hq.cell (p:=(yr w 1)) hk6).trans qB)|(go_at_call 109;refine(O HCT _ _ _ hq (hkp _ (by assumption)) ht1).mono ?_;rintro e w9 ⟨rfl,hq⟩;have zG:=(hq.cell (p:=(Y zb 12)) hJ6).trans zJ;have fG:=(World.frozen?_of_block (a:=(Y zb 12)) (hq.block zb hJ6)).trans fJ;have q0G:=(hq.cell (p:=(yr w 0)) hk6).trans qA;have q1G:=(hq.cell (p:=(yr w 1)) hk6).trans qB))
  all_goals
   go_end0;have hc:=fF (cg_below (O HC6) hq) 12 (H pl1) (by show _ < 13;decide);exact⟨rfl,_,O HFN _ _ hc.box hc.typ hc.row (by simpa using hc.told),hc.kp⟩
end Go.Proofs.YtkofhemdefffpaaGreatDoor
