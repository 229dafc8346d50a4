/-.-/
import Derived.Test.YtkofhemdefffpaaGreatDoorPq42
set_option linter.unusedVariables false
set_option maxHeartbeats 6400000
set_option maxRecDepth 100000
namespace Go.Proofs.YtkofhemdefffpaaGreatDoor
open Go.RowKit
def AgE (zb B:Nat)(w:World)(cs:List Cm)(vt:Value)(r:(Nat × Int) ⊕ Cm)(e:Ending)(w':World):Prop:=
 (∀q k,r = .inl (q,k)->e=yn (.tuple #[H q,H k])/\yp w w')/\(∀c,r = .inr c->e=yn (.tuple #[H 0,H 0])/\∃uB ow,JG zb B w' (cs ++ [c]) uB ow/\Kp zb vt w w')
theorem kp_own {G:Nat}{vq:Value}{w w':World}{B e sz n:Nat}{v:Value}{xs:List Value}(h:w.ownsRow B e sz v n xs)(E:Kp G vq w w')(Z:some G≠v.ownBlock)(Q:v.ownBlock=none\/v.ownBlock≠vq.ownBlock):w'.ownsRow B e sz v n xs:=by
 rcases h.2 with⟨rfl,e0⟩|⟨g,cap,xt,rfl,K,F,rest⟩
 ·exact⟨h.1,.inl ⟨rfl,e0⟩⟩
 ·refine⟨h.1,.inr ⟨g,cap,xt,rfl,K,(E.block g (yZ.1 F).1 (fun e=>Z (by rw[e];rfl)) ?_).trans F,rest⟩⟩;rcases Q with Q|Q
  ·cases Q
  ·exact Q
theorem take_snocV (es:List Ev)(e:Ev):(es ++ [e]).flatMap Ev.vs=es.flatMap Ev.vs++e.vs:=by simp
theorem okE_kind9 {p:List Int}{n:Int}{l:List Od}{g:Gr}{es:List Ev}{e:Ev}{r:List Ev}(h:evsK p 0 (gr0 n l) [] = .ok g es)(he:es=e::r):1<=e.kind/\e.kind<=9:=by
 obtain⟨r',Z,-,I⟩:=evsJ_run _ _ _ _ _ _ h;rw[List.nil_append] at Z;exact fh (I e (by rw[<- Z,he];simp)).1
theorem gs_row {G B r:Nat}{w W W':World}{vq gv:Value}{g:Gr}{es:List Ev}{C:Nat}(h:GS G B r w vq g)(K:yp w W)(F:W.grownBy W' gv.ownBlock)(hr:ERow W C gv es):GS G B r W' vq g:=by
 have Z:=zw h K;have hl:=Z.lt;obtain⟨xt,hc⟩:=Z.typ;have E:Kp 0 gv W W':=⟨F.os,F.tape,F.output,F.size,fun k E _ Q=>F.block k E (fun e=>Q (by rw[<- e]))⟩;have hG:W'.heap[G]? = W.heap[G]?:=F.block G hl (fun e=>zF hr Z.typ (by decide) e)
 have hm:W'.heap[r]? = W.heap[r]?:=F.block r (yZ.1 Z.mp).1 (fun e=>by
  rcases hr.2 with⟨rfl,_⟩|⟨q,cap,cu,rfl,_,hq,_⟩
  ·cases e
  ·simp only[Value.ownBlock,Option.some.injEq] at e;subst e;rw[Z.mp] at hq;cases hq)
 exact⟨dm Z.box hG,Z.row.kept F (fg Z.row hr (by decide)),⟨xt,hG.trans hc⟩,hm.trans Z.mp,Z.hG,Z.hr⟩
theorem addGroup_any (aN:Hid CloseG){zb B:Nat}{cs:List Cm}{vq vt:Value}(pv:Value)(p:List Int)(w:World)(h:JG zb B w cs vq vt)(oZ:cs.length<200)(hp:Rd w pv p)(xW:eJ pv)(K:Bts p)(hl:p.length<=8192)(hE:ErrT w) :
  Calls Tryz.prog 49 #[h3 zb 0,pv] w fun e w'=>AgE zb B w cs vt (grpJ p cs) e w':=by
 have hsf:=sfl;obtain⟨i0,hi,ub,xX,uh⟩:=info_parts infoEv;have oI:=(iu cs (by omega));have hgi:GI (gr0 (runS cs).n (runS cs).l):=gi_start oI.1.good (by omega) (by omega) oI.1.side oI.1.ids;have HJ:=U h;have HP:=U hp;have HCP:=U xW;have HBT:=U K;have HE:=U hE;have HGI:=U hgi;have hJl:=h.lt;have jn:=oI.1.good.len;have HRQ:=U (zZ h.row (by omega));have qJ:=U (iq h.row);have j0:=J h.box 0 rfl;have j1:=J h.box 1 rfl;have ui:=U (fun k r h=>grpJ_bad (p:=p) (cs:=cs) (k:=k) (r:=r) h);have xz:=U (fun g es h he=>grpJ_short (p:=p) (cs:=cs) (g:=g) (es:=es) h he);have xL:=U (fun g es h he=>grpJ_ok (p:=p) (cs:=cs) (g:=g) (es:=es) (by omega) h he);generalize grpJ p cs=GR at ui xz xL |-;obtain⟨pa,pc,rfl⟩:=fi hp;clear hp xW K hE hgi oI h;go_enter Tryz.func49,Tryz.ntmps49;go_wp2_with fail;refine(beginGroup_any (runS cs).n vq (runS cs).l w (O HRQ) (O qJ) (by omega)).mono ?_;rintro e w1 ⟨G,r,vg,rfl,hgs,ud⟩;have HGS:=U hgs;have uZ:=U ud;clear hgs ud j0 j1 HRQ qJ;go_wp2_with fail;go_loopw [7,8] (fun gv av wr=>∃(k:Nat) (g:Gr) (es:List Ev) (vg':Value),k<=p.length/\es.length<=k/\av=H k/\ERow wr w.heap.size gv es/\GS G w.heap.size r wr vg' g/\GI g/\yp w wr/\evsK p k g es=evsK p 0 (gr0 (runS cs).n (runS cs).l) []) (fun _ av _=>p.length-(intOf av).toNat)
 case atStart=>exact⟨0,_,[],vg,Nat.zero_le _,Nat.le_refl _,rfl,⟨by simp,Or.inl ⟨rfl,rfl⟩⟩,O HGS,O HGI,O uZ,rfl⟩
 case round =>
  obtain⟨k,g,es,vg',E,hel,rfl,her,hgs,hgi,oY,hev⟩:=hrel;have cF:=U her;have HGS2:=U hgs;have HGI2:=U hgi;have kq:=U oY;have qp:=U hev;obtain⟨ga,gc,rfl⟩:=gy her;clear her hgs hgi oY hev HGS uZ HGI
  by_cases xK:k<p.length
  ·have ux:(k:Int)<p.length:=by omega
   have HNO:=U (fun h=>O ui _ _ ((O qp).symm.trans (evsK_none (g:=g) (es:=es) xK h)));have kJ:=U (fun e n Z Q=>O ui _ _ ((O qp).symm.trans (evsK_bad (g:=g) (es:=es) (e:=e) (n:=n) xK Z Q)));have HGO:=U (fun e n Z Q=>(evsK_go (g:=g) (es:=es) (e:=e) (n:=n) xK Z Q).symm.trans (O qp));go_wp2_with fail;refine(implDecode_any _ p k wr (fx (O HP) (O kq) yb) (O HCP) (O HBT) (gx (O HE) (O kq) yb)).mono ?_;rintro e w2 ⟨rfl,xy⟩;cases kH:evA p k with
   | none =>
    rw[evR_none (by omega) (by omega) kH];have HF:=U (O HNO kH);have jB:Hid (yp w (w2.alloc (me (yw 0 0 0 0 0 0 0 0 ⟨#[]⟩ 0 0 0 0 0).toArray 78))):=(mf (O kq) xy).alloc (yO (O kq).size xy.size) _;unfold tupE evV zEv;simp only;clear kH xy HNO kJ HGO;go_wp2_with fail;go_ret2;exact⟨fun q r h=>by rw[O HF] at h;cases h;exact⟨rfl,O jB⟩,fun c h=>by rw[O HF] at h;cases h⟩
   | some x =>
    obtain⟨ev,n⟩:=x;rw[evR_some (by omega) (by omega) kH];have uJ:=evA_le kH;obtain⟨uA,aJ⟩:=evA_ok kH;have qx:=U (fun Q=>O kJ ev n kH Q);have HGX:=U (fun Q=>O HGO ev n kH Q);have HTS:=U (take_snocV es ev);obtain⟨xn,⟨ck,cs_,ct,cl,cq,ci,cp,cg⟩,id,xj,qty,xk,xi⟩:=ev;obtain⟨kC,vz⟩:=mh w2 (yw xn ck cs_ ct cl cq ci cp cg id xj qty xk xi) 78;have jG:=xy.trans (kC.mono xy.size);have xL:=U (mf (O kq) jG);have jQ:Hid (∃xt,(w2.alloc (me (yw xn ck cs_ ct cl cq ci cp cg id xj qty xk xi).toArray 78)).heap[w2.heap.size]? = some (.cells xt 78 (0,0))):=⟨_,heap_alloc_new _ _⟩;have uL:=U (zw (O HGS2) jG);have jP:=U (zO (O cF) jG);have qv:w2.heap.size<(w2.alloc (me (yw xn ck cs_ ct cl cq ci cp cg id xj qty xk xi).toArray 78)).heap.size:=by simp
    have ug:wr.heap.size<=w2.heap.size:=xy.size;unfold tupE evV;simp only;have HAD:=U (fun W hW=>add_kp ⟨xn,⟨ck,cs_,ct,cl,cq,ci,cp,cg⟩,id,xj,qty,xk,xi⟩ W (G:=G) (B:=w.heap.size) (r:=r) (vq:=vg') hW (O HGI2) uA (by show cg.size <= _;simp only at aJ;unfold maxLen;omega));have HGN:=U (fun hr=>gi_step (O HGI2) uA hr);unfold AddK at HAD;unfold evV at HAD;generalize zK g ⟨xn,⟨ck,cs_,ct,cl,cq,ci,cp,cg⟩,id,xj,qty,xk,xi⟩=ru at HAD qx HGX HGN;simp only at HAD;have hvl:vg'.ownBlock≠some w2.heap.size:=fun e=>by have:=((O HGS2).row.lt _ e).2;omega
    have hGl:=(O HGS2).lt;clear kH xy kC jG HNO kJ HGO uA aJ;obtain⟨e0,e1,e2,e3,e4,e5,e6,e7,e8,e9,vQ,vY,qq,qF⟩:=yz (O vz);go_wp2_with fail;generalize (w2.alloc (me (yw xn ck cs_ ct cl cq ci cp cg id xj qty xk xi).toArray 78))=W3 at xL vz jQ uL jP qv e0 e1 e2 e3 e4 e5 e6 e7 e8 e9 vQ vY qq qF |-;refine(O HAD W3 (O uL)).mono ?_;rintro e w4 ⟨rfl,hk4,jH⟩;have xQ:=U ((O xL).trans (kp_to hk4 (O uL)));clear e0 e1 e2 e3 e4 e5 e6 e7 e8 e9 vQ vY qq qF HAD
    by_cases hr:ru=0
    ·obtain⟨vg2,jH⟩:=jH hr;have uX:=U jH;have xH:=U (dm (O vz) (hk4.block w2.heap.size qv (by omega) (fun e=>hvl e.symm)));have oS:Hid (ERow w4 w.heap.size (.slice ga es.length gc) es):=kp_own (O jP) hk4 (zF (O jP) (O uL).typ (by decide)) (fg (O jP) (O uL).row (by decide));have oo:(ru != 0)=false:=by simpa using hr
     have uE:=U (O HGX hr);have HGN2:=U (O HGN hr);have hs4:w.heap.size<=w4.heap.size:=(O xQ).size;clear hr hk4 jH vz uL xL jP;obtain⟨e0,e1,e2,e3,e4,e5,e6,e7,e8,e9,vQ,vY,qq,qF⟩:=yz (O xH);go_wp2_with (at_builtin;go_must (refine wpList_append_own _ rfl _ _ 32 rfl w.heap.size 78 i0 _ 14 120 Tryz.underlying32 hi ub xX uh rfl (by decide) _ es.length (es.flatMap Ev.vs) rfl (zO (O oS) (mc _ _)) (yr w4 0) 1 1 (Ev.vs ⟨xn,⟨ck,cs_,ct,cl,cq,ci,cp,cg⟩,id,xj,qty,xk,xi⟩) rfl rfl (cellsJ rfl _ _) (one_ev _) (by unfold maxLen;omega) (by omega) (by rw[zi];omega) ?_);intro v5 w5 vA vR _);go_roundw
     case rel =>
      have uj:Below w.heap.size w4 w5:=((Below.refl w.heap.size w4).alloc hs4 _).trans (lm vR (fun b K=>((O oS).lt b K).1) (by rw[zi];omega));refine⟨n,_,es ++ [⟨xn,⟨ck,cs_,ct,cl,cq,ci,cp,cg⟩,id,xj,qty,xk,xi⟩],vg2,uJ.2,by simp;omega,by go_num,?_,?_,O HGN2,(O xQ).trans uj,O uE⟩
      ·rw[ERow,O HTS];simpa using vA
      ·exact gs_row (O uX) (W:=w4.alloc (me (yw xn ck cs_ ct cl cq ci cp cg id xj qty xk xi).toArray 78)) (mc _ _) vR (zO (O oS) (mc _ _))
     case measure=>simp[intOf];omega
    ·have oo:(ru != 0)=true:=by simpa using hr
     have HF:=U (O qx hr);clear hr hk4 jH;go_wp2_with fail;go_ret2;exact⟨fun q r h=>by rw[O HF] at h;cases h;exact⟨rfl,O xQ⟩,fun c h=>by rw[O HF] at h;cases h⟩
  ·have ux:¬ ((k:Int)<p.length):=by omega
   obtain rfl:k=p.length:=by omega
   have jj:Hid (evsK p 0 (gr0 (runS cs).n (runS cs).l) [] = .ok g es):=(O qp).symm.trans (evsK_end yb);have HSH:=U (fun h=>O xz g es (O jj) h);have cH:=U (fun h=>O xL g es (O jj) h);go_wp2_with fail;refine(endRule_any wr (O HGS2) (O HGI2)).mono ?_;rintro e w2 ⟨rfl,xy⟩;have HB2':=U (mf (O kq) xy)
   by_cases hz:endR g=0
   ·obtain⟨e0,r0,oH,uN,qm,qu,hgl2,-⟩:=O cH hz;have hzb:(endR g != 0)=false:=by simpa using hz
    have uf:=U (zw (O HGS2) xy);have c1:w2.cell? (Y G 1)=some (H g.nx):=J (O uf).box 1 rfl;have c2:w2.cell? (Y G 2)=some vg':=J (O uf).box 2 rfl;have ku:=U (jg_below (O HJ) (O HB2'));have qj:Hid (ERow w2 w.heap.size (.slice ga es.length gc) es):=zO (O cF) xy;have vv:Hid (ORow w2 B vg' g.l):=zR (O uf).row (yO (O HJ).hJ (Nat.le_of_lt hJl));have HK9:=U (okE_kind9 (O jj) oH);rw[hz];rw[qu] at c1;rw[hgl2] at vv;have vu:=U uN;have vS:=U qm;have HES:=U oH;generalize hN:stN (runS cs).n (runS cs).l (da e0)=nn at c1;have HNN:=U hN;clear hz hzb uN qm qu hgl2 oH xy hN;go_wp2_with fail;rw[<- O HNN,show es=e0::r0 from O HES];refine(O aN zb B cs vq vt e0 r0 _ vg' w.heap.size w2 (O ku) oZ (by rw[<- O HES];omega) (by rw[<- O HES];exact O qj) (O HK9) (by rw[<- O HES];exact O vS) (O vv)).mono ?_;rintro e w3 ⟨rfl,ow,hj3,bW⟩;have HJ3:=U hj3;have vZ:=U (kp_kp (kp_of (O HB2')) bW);clear hj3 bW;go_wp2_with fail;go_ret2;exact⟨fun q r h=>(by rw[O vu] at h;cases h),fun c h=>by rw[O vu] at h;cases h;exact⟨rfl,vg',ow,O HJ3,O vZ⟩⟩
   ·have HF:=U (O HSH hz);have hz15:endR g=15:=by unfold endR at hz |-;split at hz <;> rename_i h5;exact if_pos h5;exact absurd rfl hz
    rw[hz15];clear hz;go_wp2_with fail;go_ret2;exact⟨fun q r h=>by rw[O HF] at h;cases h;exact⟨rfl,O HB2'⟩,fun c h=>by rw[O HF] at h;cases h⟩
end Go.Proofs.YtkofhemdefffpaaGreatDoor
