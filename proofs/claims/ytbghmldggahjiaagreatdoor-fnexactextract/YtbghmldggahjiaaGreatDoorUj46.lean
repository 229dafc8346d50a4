/-.-/
import Derived.Test.YtbghmldggahjiaaGreatDoorUj45
set_option linter.unusedVariables false
set_option maxHeartbeats 6400000
set_option maxRecDepth 100000
namespace Go.Proofs.YtbghmldggahjiaaGreatDoor
open Go.RowKit
theorem decode_any (v:Value)(l:List Int)(k:Nat)(w:World)(xU:Rd w v l)(xC:dR v)(A:Bts l)(hl:l.length<=65536)(X:k<=l.length) :
  Calls Tryz.prog 82 #[v,H k] w fun e w'=>DcEnd w (evA l k) e w':=by
 by_cases h:k<l.length
 ·by_cases D:l.getD k 0=1
  ·exact decode1_any v l k w xU xC A hl h D
  ·by_cases E:l.getD k 0=2
   ·exact decode2_any v l k w xU xC A hl h E
   ·by_cases h3:1<=l.getD k 0/\l.getD k 0<=9
    ·exact decodeN_any v l k w xU xC A hl h (by omega)
    ·exact decodeO_any v l k w xU A hl h h3
 ·exact decodeE_any v l k w xU hl (by omega) (by omega)
def AgE (lV B:Nat)(w:World)(cs:List Cm)(vt:Value)(r:(Nat × Int) ⊕ Cm)(e:Ending)(w':World):Prop:=
 (∀q k,r = .inl (q,k)->e=ym (.tuple #[H q,H k])/\yn w w')/\(∀c,r = .inr c->e=ym (.tuple #[H 0,H 0])/\∃ux vU,JG lV B w' (cs ++ [c]) ux vU/\Kp lV vt w w')
theorem kp_own {G:Nat}{vq:Value}{w w':World}{B e sz n:Nat}{v:Value}{xs:List Value}(h:w.ownsRow B e sz v n xs)(X:Kp G vq w w')(D:some G≠v.ownBlock)(E:v.ownBlock=none\/v.ownBlock≠vq.ownBlock):w'.ownsRow B e sz v n xs:=by
 rcases h.2 with⟨rfl,e0⟩|⟨g,cap,xr,rfl,A,M,rest⟩
 ·exact⟨h.1,.inl ⟨rfl,e0⟩⟩
 ·refine⟨h.1,.inr ⟨g,cap,xr,rfl,A,(X.block g (yY.1 M).1 (fun e=>D (by rw[e];rfl)) ?_).trans M,rest⟩⟩;rcases E with E|E
  ·cases E
  ·exact E
theorem take_snocV (es:List Ev)(e:Ev):(es ++ [e]).flatMap Ev.vs=es.flatMap Ev.vs++e.vs:=by simp
theorem okE_kind9 {p:List Int}{n:Int}{l:List Od}{g:Gr}{es:List Ev}{e:Ev}{r:List Ev}(h:evsK p 0 (gr0 n l) [] = .ok g es)(he:es=e::r):1<=e.kind/\e.kind<=9:=by
 obtain⟨r',D,-,h3⟩:=evsJ_run _ _ _ _ _ _ h;rw[List.nil_append] at D;exact fx (h3 e (by rw[<- D,he];simp)).1
theorem gs_row {G B r:Nat}{w W W':World}{vq gv:Value}{g:Gr}{es:List Ev}{C:Nat}(h:GS G B r w vq g)(A:yn w W)(M:W.grownBy W' gv.ownBlock)(hr:ERow W C gv es):GS G B r W' vq g:=by
 have D:=zu h A;have hl:=D.lt;obtain⟨xr,hc⟩:=D.typ;have X:Kp 0 gv W W':=⟨M.os,M.tape,M.output,M.size,fun k X _ E=>M.block k X (fun e=>E (by rw[<- e]))⟩;have hG:W'.heap[G]? = W.heap[G]?:=M.block G hl (fun e=>zy hr D.typ (by decide) e)
 have hm:W'.heap[r]? = W.heap[r]?:=M.block r (yY.1 D.mp).1 (fun e=>by
  rcases hr.2 with⟨rfl,_⟩|⟨q,cap,cu,rfl,_,hq,_⟩
  ·cases e
  ·simp only[Value.ownBlock,Option.some.injEq] at e;subst e;rw[D.mp] at hq;cases hq)
 exact⟨zQ D.box hG,D.row.kept M (gF D.row hr (by decide)),⟨xr,hG.trans hc⟩,hm.trans D.mp,D.hG,D.hr⟩
theorem addGroup_any (bI:Hid CloseG){lV B:Nat}{cs:List Cm}{vq vt:Value}(pv:Value)(p:List Int)(w:World)(h:JG lV B w cs vq vt)(bz:cs.length<200)(hp:Rd w pv p)(xC:dR pv)(A:Bts p)(hl:p.length<=8192)(hE:ErrT w) :
  Calls Tryz.prog 31 #[xj lV 0,pv] w fun e w'=>AgE lV B w cs vt (grpJ p cs) e w':=by
 have hsf:=sfl;obtain⟨i0,hi,uE,uw,uC⟩:=info_parts infoEv;have jK:=(gR cs (by omega));have hgi:GI (gr0 (runS cs).n (runS cs).l):=gi_start jK.1.good (by omega) (by omega) jK.1.side jK.1.ids;have HJ:=Q h;have HP:=Q hp;have HCP:=Q xC;have kZ:=Q A;have HE:=Q hE;have HGI:=Q hgi;have hJl:=h.lt;have qZ:=jK.1.good.len;have HRQ:=Q (zP h.row (by omega));have jS:=Q (oRow_sl h.row);have j0:=Y h.box 0 rfl;have j1:=Y h.box 1 rfl;have ud:=Q (fun k r h=>grpJ_bad (p:=p) (cs:=cs) (k:=k) (r:=r) h);have xq:=Q (fun g es h he=>grpJ_short (p:=p) (cs:=cs) (g:=g) (es:=es) h he);have xZ:=Q (fun g es h he=>grpJ_ok (p:=p) (cs:=cs) (g:=g) (es:=es) (by omega) h he);generalize grpJ p cs=GR at ud xq xZ |-;obtain⟨pa,pc,rfl⟩:=eb hp;clear hp xC A hE hgi jK h;go_enter Tryz.func31,Tryz.ntmps31;go_wp2_with fail;refine(beginGroup_any (runS cs).n vq (runS cs).l w (Z HRQ) (Z jS) (by omega)).mono ?_;rintro e w1 ⟨G,r,vg,rfl,hgs,xR⟩;have HGS:=Q hgs;have vT:=Q xR;clear hgs xR j0 j1 HRQ jS;go_wp2_with fail;go_loopw [7,8] (fun gv av wr=>∃(k:Nat) (g:Gr) (es:List Ev) (vg':Value),k<=p.length/\es.length<=k/\av=H k/\ERow wr w.heap.size gv es/\GS G w.heap.size r wr vg' g/\GI g/\yn w wr/\evsK p k g es=evsK p 0 (gr0 (runS cs).n (runS cs).l) []) (fun _ av _=>p.length-(intOf av).toNat)
 case atStart=>exact⟨0,_,[],vg,Nat.zero_le _,Nat.le_refl _,rfl,⟨by simp,Or.inl ⟨rfl,rfl⟩⟩,Z HGS,Z HGI,Z vT,rfl⟩
 case round =>
  obtain⟨k,g,es,vg',X,hel,rfl,her,hgs,hgi,oP,hev⟩:=hrel;have pC:=Q her;have HGS2:=Q hgs;have HGI2:=Q hgi;have oa:=Q oP;have qX:=Q hev;obtain⟨ga,gc,rfl⟩:=fI her;clear her hgs hgi oP hev HGS vT HGI
  by_cases xH:k<p.length
  ·have uq:(k:Int)<p.length:=by omega
   have HNO:=Q (fun h=>Z ud _ _ ((Z qX).symm.trans (evsK_none (g:=g) (es:=es) xH h)));have uk:=Q (fun e n D E=>Z ud _ _ ((Z qX).symm.trans (evsK_bad (g:=g) (es:=es) (e:=e) (n:=n) xH D E)));have HGO:=Q (fun e n D E=>(evsK_go (g:=g) (es:=es) (e:=e) (n:=n) xH D E).symm.trans (Z qX));go_wp2_with fail;refine(implDecode_any _ p k wr (zN (Z HP) (Z oa) ya) (Z HCP) (Z kZ) (zY (Z HE) (Z oa) ya)).mono ?_;rintro e w2 ⟨rfl,xE⟩;cases kz:evA p k with
   | none =>
    rw[evR_none (by omega) (by omega) kz];have HF:=Q (Z HNO kz);have vB:Hid (yn w (w2.alloc (J (yv 0 0 0 0 0 0 0 0 ⟨#[]⟩ 0 0 0 0 0).toArray 89))):=(lW (Z oa) xE).alloc (yN (Z oa).size xE.size) _;unfold tupE evV zEv;simp only;clear kz xE HNO uk HGO;go_wp2_with fail;go_ret2;exact⟨fun q r h=>by rw[Z HF] at h;cases h;exact⟨rfl,Z vB⟩,fun c h=>by rw[Z HF] at h;cases h⟩
   | some x =>
    obtain⟨ev,n⟩:=x;rw[evR_some (by omega) (by omega) kz];have uB:=evA_le kz;obtain⟨ql,htg⟩:=evA_ok kz;have vV:=Q (fun E=>Z uk ev n kz E);have HGX:=Q (fun E=>Z HGO ev n kz E);have pq:=Q (take_snocV es ev);obtain⟨xl,⟨ck,aG,ct,cl,cq,ci,cp,cg⟩,id,xh,qty,xi,xg⟩:=ev;obtain⟨kf,uz⟩:=lY w2 (yv xl ck aG ct cl cq ci cp cg id xh qty xi xg) 89;have js:=xE.trans (kf.mono xE.size);have xZ:=Q (lW (Z oa) js);have jT:Hid (∃xr,(w2.alloc (J (yv xl ck aG ct cl cq ci cp cg id xh qty xi xg).toArray 89)).heap[w2.heap.size]? = some (.cells xr 89 (0,0))):=⟨_,heap_alloc_new _ _⟩;have uD:=Q (zu (Z HGS2) js);have bQ:=Q (fc (Z pC) js);have ja:w2.heap.size<(w2.alloc (J (yv xl ck aG ct cl cq ci cp cg id xh qty xi xg).toArray 89)).heap.size:=by simp
    have uc:wr.heap.size<=w2.heap.size:=xE.size;unfold tupE evV;simp only;have HAD:=Q (fun W hW=>add_kp ⟨xl,⟨ck,aG,ct,cl,cq,ci,cp,cg⟩,id,xh,qty,xi,xg⟩ W (G:=G) (B:=w.heap.size) (r:=r) (vq:=vg') hW (Z HGI2) ql (by show cg.size <= _;simp only at htg;unfold maxLen;omega));have cO:=Q (fun hr=>gi_step (Z HGI2) ql hr);unfold AddK at HAD;unfold evV at HAD;generalize zx g ⟨xl,⟨ck,aG,ct,cl,cq,ci,cp,cg⟩,id,xh,qty,xi,xg⟩=ru at HAD vV HGX cO;simp only at HAD;have hvl:vg'.ownBlock≠some w2.heap.size:=fun e=>by have:=((Z HGS2).row.lt _ e).2;omega
    have hGl:=(Z HGS2).lt;clear kz xE kf js HNO uk HGO ql htg;obtain⟨e0,e1,e2,e3,e4,e5,e6,e7,e8,e9,uL,uG,vJ,vu⟩:=yy (Z uz);go_wp2_with fail;generalize (w2.alloc (J (yv xl ck aG ct cl cq ci cp cg id xh qty xi xg).toArray 89))=W3 at xZ uz jT uD bQ ja e0 e1 e2 e3 e4 e5 e6 e7 e8 e9 uL uG vJ vu |-;refine(Z HAD W3 (Z uD)).mono ?_;rintro e w4 ⟨rfl,hk4,dw⟩;have xK:=Q ((Z xZ).trans (kp_to hk4 (Z uD)));clear e0 e1 e2 e3 e4 e5 e6 e7 e8 e9 uL uG vJ vu HAD
    by_cases hr:ru=0
    ·obtain⟨vg2,dw⟩:=dw hr;have uP:=Q dw;have xw:=Q (zQ (Z uz) (hk4.block w2.heap.size ja (by omega) (fun e=>hvl e.symm)));have bR:Hid (ERow w4 w.heap.size (.slice ga es.length gc) es):=kp_own (Z bQ) hk4 (zy (Z bQ) (Z uD).typ (by decide)) (gF (Z bQ) (Z uD).row (by decide));have pu:(ru != 0)=false:=by simpa using hr
     have uQ:=Q (Z HGX hr);have HGN2:=Q (Z cO hr);have hs4:w.heap.size<=w4.heap.size:=(Z xK).size;clear hr hk4 dw uz uD xZ bQ;obtain⟨e0,e1,e2,e3,e4,e5,e6,e7,e8,e9,uL,uG,vJ,vu⟩:=yy (Z xw);go_wp2_with (at_builtin;go_must (refine wpList_append_own _ rfl _ _ 87 rfl w.heap.size 89 i0 _ 14 120 Tryz.underlying87 hi uE uw uC rfl (by decide) _ es.length (es.flatMap Ev.vs) rfl (fc (Z bR) (lT _ _)) (yq w4 0) 1 1 (Ev.vs ⟨xl,⟨ck,aG,ct,cl,cq,ci,cp,cg⟩,id,xh,qty,xi,xg⟩) rfl rfl (cellsJ rfl _ _) (one_ev _) (by unfold maxLen;omega) (by omega) (by rw[zh];omega) ?_);intro v5 w5 qC kN _);go_roundw
     case rel =>
      have xX:Below w.heap.size w4 w5:=((Below.refl w.heap.size w4).alloc hs4 _).trans (fZ kN (fun b A=>((Z bR).lt b A).1) (by rw[zh];omega));refine⟨n,_,es ++ [⟨xl,⟨ck,aG,ct,cl,cq,ci,cp,cg⟩,id,xh,qty,xi,xg⟩],vg2,uB.2,by simp;omega,by go_num,?_,?_,Z HGN2,(Z xK).trans xX,Z uQ⟩
      ·rw[ERow,Z pq];simpa using qC
      ·exact gs_row (Z uP) (W:=w4.alloc (J (yv xl ck aG ct cl cq ci cp cg id xh qty xi xg).toArray 89)) (lT _ _) kN (fc (Z bR) (lT _ _))
     case measure=>simp[intOf];omega
    ·have pu:(ru != 0)=true:=by simpa using hr
     have HF:=Q (Z vV hr);clear hr hk4 dw;go_wp2_with fail;go_ret2;exact⟨fun q r h=>by rw[Z HF] at h;cases h;exact⟨rfl,Z xK⟩,fun c h=>by rw[Z HF] at h;cases h⟩
  ·have uq:¬ ((k:Int)<p.length):=by omega
   obtain rfl:k=p.length:=by omega
   have jc:Hid (evsK p 0 (gr0 (runS cs).n (runS cs).l) [] = .ok g es):=(Z qX).symm.trans (evsK_end ya);have HSH:=Q (fun h=>Z xq g es (Z jc) h);have HLW:=Q (fun h=>Z xZ g es (Z jc) h);go_wp2_with fail;refine(endRule_any wr (Z HGS2) (Z HGI2)).mono ?_;rintro e w2 ⟨rfl,xE⟩;have HB2':=Q (lW (Z oa) xE)
   by_cases hz:endR g=0
   ·obtain⟨e0,r0,dv,vY,pK,qw,hgl2,-⟩:=Z HLW hz;have hzb:(endR g != 0)=false:=by simpa using hz
    have ua:=Q (zu (Z HGS2) xE);have c1:w2.cell? (U G 1)=some (H g.nx):=Y (Z ua).box 1 rfl;have c2:w2.cell? (U G 2)=some vg':=Y (Z ua).box 2 rfl;have HJ2:=Q (jg_below (Z HJ) (Z HB2'));have uU:Hid (ERow w2 w.heap.size (.slice ga es.length gc) es):=fc (Z pC) xE;have qy:Hid (ORow w2 B vg' g.l):=rowE_mono (Z ua).row (yN (Z HJ).hJ (Nat.le_of_lt hJl));have HK9:=Q (okE_kind9 (Z jc) dv);rw[hz];rw[qw] at c1;rw[hgl2] at qy;have qm:=Q vY;have qO:=Q pK;have HES:=Q dv;generalize hN:stN (runS cs).n (runS cs).l (zV e0)=nn at c1;have HNN:=Q hN;clear hz hzb vY pK qw hgl2 dv xE hN;go_wp2_with fail;rw[<- Z HNN,show es=e0::r0 from Z HES];refine(Z bI lV B cs vq vt e0 r0 _ vg' w.heap.size w2 (Z HJ2) bz (by rw[<- Z HES];omega) (by rw[<- Z HES];exact Z uU) (Z HK9) (by rw[<- Z HES];exact Z qO) (Z qy)).mono ?_;rintro e w3 ⟨rfl,vU,hj3,je⟩;have HJ3:=Q hj3;have HK3:=Q (kp_kp (eL (Z HB2')) je);clear hj3 je;go_wp2_with fail;go_ret2;exact⟨fun q r h=>(by rw[Z qm] at h;cases h),fun c h=>by rw[Z qm] at h;cases h;exact⟨rfl,vg',vU,Z HJ3,Z HK3⟩⟩
   ·have HF:=Q (Z HSH hz);have hz15:endR g=15:=by unfold endR at hz |-;split at hz <;> rename_i h5;exact if_pos h5;exact absurd rfl hz
    rw[hz15];clear hz;go_wp2_with fail;go_ret2;exact⟨fun q r h=>by rw[Z HF] at h;cases h;exact⟨rfl,Z HB2'⟩,fun c h=>by rw[Z HF] at h;cases h⟩
theorem infoCJ:(Tryz.prog.info? 57).map (fun i=>(i.zero,i.size,i.bytes))=some (some (.agg (yx 0 0 0 0 0 0 0 ⟨#[]⟩).toArray),8,72):=by kernel_rfl
theorem max_run (a c:Nat)(W:World):(Builtin.max_ #[3,3] 3 #[H a,H c]).run Tryz.prog W = .ok (H ((max a c:Nat):Int)) W:=by
 by_cases uB:a<=c
 ·rw[Nat.max_eq_right uB];go_simp;omega
 ·rw[Nat.max_eq_left (by omega)];go_simp;omega
theorem one_cm (c:Cm):∀u∈c.vs,u.oneCell'=true:=by
 intro u hu;simp[Cm.vs] at hu;rcases hu with rfl|rfl|rfl|rfl|rfl|rfl|rfl|rfl <;> rfl
theorem own_typ {w:World}{B e sz n b:Nat}{v:Value}{xs:List Value}(h:w.ownsRow B e sz v n xs)(A:v.ownBlock=some b):∃xr,w.heap[b]? = some (.cells xr e (0,0)):=by
 rcases h.2 with⟨rfl,_⟩|⟨g,cap,xr,rfl,_,M,_⟩
 ·cases A
 ·cases A;exact⟨xr,M⟩
theorem mfail_ex {w:World}{hg:Nat}{v:Value}{k s n:Int}{vq:Value}{T:Tot}{vt:Value}{po pv:Int}(r q:Int)(W:World)(h:MB w hg (mjV v k s 0 0 n vq T vt po pv) W) :
  Calls Tryz.prog 50 #[xj hg 0,H r,H q] W fun e w'=>e=ym (.tuple #[])/\w'=W.setCells hg 3 [H r,H q]:=by
 have c3:=Y h.box 3 rfl;have c4:=Y h.box 4 rfl;have f3:=zc h.box 3 (by show _ < 18;decide);have f4:=zc h.box 4 (by show _ < 18;decide);simp only[World.setCells];clear h;go_enter Tryz.func50,Tryz.ntmps50;go_wp2_with fail;go_end0;exact⟨rfl,rfl⟩
theorem gI {w:World}{hg:Nat}{v:Value}{k s n:Int}{vq:Value}{T:Tot}{vt:Value}{po pv:Int}(r q:Int)(W:World)(h:MB w hg (mjV v k s 0 0 n vq T vt po pv) W) :
  Calls Tryz.prog 50 #[xj hg 0,H r,H q] W fun e w'=>e=ym (.tuple #[])/\MB w hg (mjV v k s r q n vq T vt po pv) w':=
 (mfail_ex r q W h).mono fun e w' ⟨D,E⟩=>⟨D,E ▸ ig h 3 [H r,H q] (Nat.le_of_ble_eq_true rfl)⟩
theorem mfail_mj {w:World}{hg:Nat}{v:Value}{k s:Int}{cs:List Cm}{T:Tot}{vq vt:Value}(r q:Int)(W:World)(h:MJ w hg v k s 0 0 cs T vq vt W) :
  Calls Tryz.prog 50 #[xj hg 0,H r,H q] W fun e w'=>e=ym (.tuple #[])/\MJ w hg v k s r q cs T vq vt w':=
 (mfail_ex r q W h.mb).mono fun e w' ⟨D,E⟩=>⟨D,E ▸ ij h 3 [H r,H q] (Nat.le_of_ble_eq_true rfl) rfl h.al⟩
structure MGp (w:World) (hg O B1:Nat) (v:Value) (k0 s:Int) (cs:List Cm) (vq vl vd vt:Value) (g:Gr) (t:Od) (kd:Int) (dy:List Od) (cl:List Cm) (T:Tot) (W:World):Prop where
 mb:MB w hg (mjV v k0 s 0 0 (runS cs).n vq T vt (pkO cs) (pkL cs)) W
 row:ORow W w.heap.size vq (runS cs).l
 told:W.ownsRow w.heap.size 57 8 vt cl.length (cl.flatMap Cm.vs)
 ms:MS O B1 W vl vd vq g t kd (runS cs).n dy (runS cs).l
 gi:GI g
 mr:MR g t kd dy
 hq:∀b,vq.ownBlock=some b->b<B1
 hB:w.heap.size<=B1
section
variable {w:World} {hg O B1:Nat} {v:Value} {k0 s:Int} {cs:List Cm} {vq vl vd vt:Value} {g:Gr} {t:Od} {kd:Int} {dy:List Od} {cl:List Cm} {T:Tot} {W W':World}
theorem hP (h:MGp w hg O B1 v k0 s cs vq vl vd vt g t kd dy cl T W)(A:yn W W'):MGp w hg O B1 v k0 s cs vq vl vd vt g t kd dy cl T W':=
 ⟨iE h.mb A,zK h.row A,fP h.told A,zv h.ms A,h.gi,h.mr,h.hq,h.hB⟩
theorem mgp_kp {cl':List Cm}{T':Tot}{vU:Value}(h:MGp w hg O B1 v k0 s cs vq vl vd vt g t kd dy cl T W)(X:Kp hg vt W W')(hm:MB w hg (mjV v k0 s 0 0 (runS cs).n vq T' vU (pkO cs) (pkL cs)) W')(ht:W'.ownsRow w.heap.size 57 8 vU cl'.length (cl'.flatMap Cm.vs)):MGp w hg O B1 v k0 s cs vq vl vd vU g t kd dy cl' T' W':=
 ⟨hm,kp_own h.row X (zy h.row h.mb.typ (by decide)) (gF h.row h.told (by decide)),ht,ms_keep h.ms h.mb.typ h.told h.row X,h.gi,h.mr,h.hq,h.hB⟩
theorem mgp_sets {T':Tot}(h:MGp w hg O B1 v k0 s cs vq vl vd vt g t kd dy cl T W)(o:Nat)(us:List Value)(hl:o+us.length<=18)(he:mjV v k0 s 0 0 (runS cs).n vq T' vt (pkO cs) (pkL cs)=(mjV v k0 s 0 0 (runS cs).n vq T vt (pkO cs) (pkL cs)).take o++us++(mjV v k0 s 0 0 (runS cs).n vq T vt (pkO cs) (pkL cs)).drop (o+us.length)):MGp w hg O B1 v k0 s cs vq vl vd vt g t kd dy cl T' (W.setCells hg o us):=
 mgp_kp h (kp_sets (eL (Below.refl _ _)) o us) (by rw[he];exact ig h.mb o us hl) (eP (zy h.told h.mb.typ (by decide)) us o W h.told)
theorem mgp_take {qd vw:Value}{g':Gr}{t':Od}{kd':Int}{dy':List Od}(h:MGp w hg O B1 v k0 s cs vq vl vd vt g t kd dy cl T W)(X:KO O vl.ownBlock W W')(hs:MS O B1 W' qd vw vq g' t' kd' (runS cs).n dy' (runS cs).l)(M:GI g')(hm:MR g' t' kd' dy'):MGp w hg O B1 v k0 s cs vq qd vw vt g' t' kd' dy' cl T W':=by
 obtain⟨cm,hcm⟩:=h.mb.typ;obtain⟨co,hco⟩:=h.ms.typ;have hMO:hg≠O:=fun e=>by subst e;rw[hcm] at hco;simp only[Option.some.injEq,Obj.cells.injEq] at hco;exact absurd hco.2.1 (by decide)
 have hMb:=X.block hg h.mb.lt hMO (zy h.ms.row h.mb.typ (by decide));have hOB:=h.ms.hO
 have xk:yn w W':=⟨X.os.trans h.mb.bel.os,X.tape.trans h.mb.bel.tape,X.output.trans h.mb.bel.output,yN h.mb.bel.size X.size,fun k hl=>by
  refine(X.block k (yJ hl h.mb.bel.size) ?_ ?_).trans (h.mb.bel.block k hl)
  ·intro e;have:=h.hB;omega
  ·intro e;have:=(h.ms.row.lt k e.symm).1;have:=h.hB;omega⟩
 have own:∀ {B e sz n:Nat} {u:Value} {xs:List Value},W.ownsRow B e sz u n xs->143 ≠ e->(∀b,u.ownBlock=some b->some b≠vl.ownBlock)->W'.ownsRow B e sz u n xs:=fun {B e sz n u xs} K he xy=>by
  have D:=zy K h.ms.typ he;rcases K.2 with⟨rfl,e0⟩|⟨q,cap,xr,rfl,A,hq,rest⟩
  ·exact⟨K.1,.inl ⟨rfl,e0⟩⟩
  ·exact⟨K.1,.inr ⟨q,cap,xr,rfl,A,(X.block q (yY.1 hq).1 (fun e=>D (by rw[e];rfl)) (xy q rfl)).trans hq,rest⟩⟩
 refine⟨mb_blk h.mb hMb xk,own h.row (by decide) (fun b A e=>?_),own h.told (by decide) (fun b A e=>?_),hs,M,hm,h.hq,h.hB⟩
 ·have:=h.hq b A;have:=(h.ms.row.lt b e.symm).1;omega
 ·rcases gF h.told h.ms.row (by decide) with D|D
  ·rw[A] at D;cases D
  ·exact D (by rw[A,e])
end
structure MX (w:World) (hg:Nat) (vs:List Value) (vl:Value) (L:List Od) (vt:Value) (cl:List Cm) (W:World):Prop where
 mb:MB w hg vs W
 row:ORow W w.heap.size vl L
 told:W.ownsRow w.heap.size 57 8 vt cl.length (cl.flatMap Cm.vs)
theorem mx_below {w:World}{hg:Nat}{vs:List Value}{vl vt:Value}{L:List Od}{cl:List Cm}{W W':World}(h:MX w hg vs vl L vt cl W)(A:yn W W'):MX w hg vs vl L vt cl W':=⟨iE h.mb A,zK h.row A,fP h.told A⟩
theorem mx_sets {w:World}{hg:Nat}{vs:List Value}{vl vt:Value}{L:List Od}{cl:List Cm}{W:World}(h:MX w hg vs vl L vt cl W)(o:Nat)(us:List Value)(hl:o+us.length<=vs.length):MX w hg (vs.take o++us++vs.drop (o+us.length)) vl L vt cl (W.setCells hg o us):=
 ⟨ig h.mb o us hl,eP (zy h.row h.mb.typ (by decide)) us o W h.row,eP (zy h.told h.mb.typ (by decide)) us o W h.told⟩
def MgE (w:World)(hg:Nat)(v:Value)(k0 s:Int)(cs:List Cm)(T0:Tot)(n:Nat)(R:(Nat × Int) ⊕ Cm)(e:Ending)(w':World):Prop:=
 e=ym (.tuple #[])/\(∀q r,R = .inl (q,r)->MF w hg v (n+q,r) w')/\(∀c,R = .inr c->∃ux vU T',MJ w hg v k0 s 0 0 (cs ++ [c]) T' ux vU w'/\T'.gr=T0.gr)
theorem mgE_bad {w:World}{hg:Nat}{v:Value}{k0 s:Int}{cs:List Cm}{T0:Tot}{n q:Nat}{r:Int}{R:(Nat × Int) ⊕ Cm}{w':World}{n1:Int}{vq vt:Value}{T:Tot}{po pv:Int}{z:Int}(h:R = .inl (q,r))(hz:z=((n+q:Nat):Int))(hm:MB w hg (mjV v k0 s r z n1 vq T vt po pv) w'):MgE w hg v k0 s cs T0 n R (ym (.tuple #[])) w':=
 ⟨rfl,fun q' r' e=>by rw[h] at e;cases e;exact⟨k0,s,n1,vq,T,vt,po,pv,by rw[<- hz];exact hm⟩,fun c e=>by rw[h] at e;cases e⟩
theorem wgT_snoc (t:Tot)(es:List Ev)(e:Ev):wgT t (es ++ [e])=cntE (wgT t es) e:=by unfold wgT;rw[List.foldl_append];rfl
theorem tolds_one (es:List Ev)(e:Ev):tolds (es ++ [e])=if es = [] then[zV e] else tolds es:=by
 cases es with
 | nil=>rfl
 | cons a r=>rfl
theorem totalsPayload_any (t:Tt)(ht:t.ok)(w:World) :
  Calls Tryz.prog 42 #[.agg #[H t.a,H t.b,H t.c,H t.d,H t.e,H t.f,H t.g,H t.h]] w fun e w'=>∃v,e=ym v/\BRow w' w.heap.size v (pay t.ns)/\yn w w':=by
 obtain⟨i0,vA,uE,uw,uC⟩:=info_parts Tryz.infoByte;obtain⟨n0,n1,n2,n3,n4,n5,n6,n7⟩:=t;have jc:Hid (∀n ∈ [n0,n1,n2,n3,n4,n5,n6,n7],I6 n):=ht;clear ht;show Calls _ _ _ _ fun e w'=>∃v,e=ym v/\BRow w' w.heap.size v (pay [n0,n1,n2,n3,n4,n5,n6,n7])/\yn w w';simp only;have xR:=lT w (J #[H n0,H n1,H n2,H n3,H n4,H n5,H n6,H n7] 43);have ud:=Q xR;have vW:Hid (World.rangeAt (w.alloc (J #[H n0,H n1,H n2,H n3,H n4,H n5,H n6,H n7] 43)) w.heap.size 0 [H n0,H n1,H n2,H n3,H n4,H n5,H n6,H n7]):=lE w [H n0,H n1,H n2,H n3,H n4,H n5,H n6,H n7] _;clear xR;go_enter Tryz.func42,Tryz.ntmps42;refine lX fun ho xV=>?_;go_wp2_with fail;refine Z xV _ _ ?_;clear xV;generalize (w.alloc (J #[H n0,H n1,H n2,H n3,H n4,H n5,H n6,H n7] 43))=hk at ud vW |-;obtain⟨z0,z1,z2,z3,z4,z5,z6,z7⟩:=yD (Z vW);refine lX fun ho xV=>?_;go_wp2_with fail;refine Z xV _ _ ?_;clear xV;refine lX fun ho xV=>?_;go_wp2_with fail;clear z0 z1 z2 z3 z4 z5 z6 z7;go_loopw [3,23] (fun ov iv wr=>∃(k:Nat),k<=8/\iv=H k/\Hid (BRow wr hk.heap.size ov (pay ([n0,n1,n2,n3,n4,n5,n6,n7].take k))/\yn hk wr)) (fun _ iv _=>8-(intOf iv).toNat)
 case atStart=>exact⟨0,by omega,rfl,World.ownsRow_nil _ _ _ _,Below.refl _ _⟩
 case round =>
  obtain⟨k,X,rfl,vf⟩:=hrel
  by_cases xH:k<8
  ·rcases(by omega:k=0\/k=1\/k=2\/k=3\/k=4\/k=5\/k=6\/k=7) with rfl|rfl|rfl|rfl|rfl|rfl|rfl|rfl
   ·have vn:Hid (pay ([n0,n1,n2,n3,n4,n5,n6,n7].take (0+1))=pay ([n0,n1,n2,n3,n4,n5,n6,n7].take 0)++putU (zz n0)):=gy [n0,n1,n2,n3,n4,n5,n6,n7] rfl;have uj:=Z jc n0 (by simp);obtain⟨xS,xk⟩:=Z vf;have uB:=fC ([n0,n1,n2,n3,n4,n5,n6,n7].take 0) (fun m hm=>Z jc m (List.mem_of_mem_take hm));have jt:(pay ([n0,n1,n2,n3,n4,n5,n6,n7].take 0)).length<=80:=yN uB (by simp);generalize pay ([n0,n1,n2,n3,n4,n5,n6,n7].take 0)=L at xS vn jt;have pE:=Q xS;have uH:=Q xk;clear xS xk uB vf;have cA:∀W:World,Sem.run Tryz.prog (Instr.index 112 (.agg #[H n0,H n1,H n2,H n3,H n4,H n5,H n6,H n7]) (H 0)) W = .ok (H n0) W:=fun W=>by kernel_rfl
    go_wp2_with fail;clear cA;refine(gC n0 wr uj.1 uj.2).mono ?_;rintro e w2 ⟨v2,rfl,jf,xE⟩;have vv:=ft _ (zz_lt n0 uj.1 uj.2);obtain⟨g,cp,rfl,qZ,vQ⟩:=gx jf;have uA:=Q vQ;have qy:=Q (gp (Z pE) xE);have kG:Hid (hk.heap.size<=w2.heap.size):=yN (Z uH).size xE.size;have xq:=Q (lW (Z uH) xE);clear jf xE vQ;generalize putU (zz n0)=P at vn vv uA |-;go_wp2_with (at_builtin;go_must (refine wpList_append_own _ rfl _ _ 22 rfl hk.heap.size 5 i0 _ 1 1 Tryz.underlying22 vA uE uw uC rfl (by decide) (u3) _ _ rfl (Z qy) (U g 0) _ cp ((P).map (Value.int .u8)) rfl (by simp) (Z uA) (one_b _) (by unfold maxLen;omega) (by omega) (Z kG) ?_);intro v3 w3 xL M _;have jy:=Q xL;have qm:=Q M;clear xL M)
    have HN:Hid (BRow w3 hk.heap.size v3 (pay ([n0,n1,n2,n3,n4,n5,n6,n7].take (0+1)))/\yn hk w3):=by
     rw[Z vn];exact⟨gu (Z jy),(Z xq).grown (Z qm) (Z xq).size (fun q hq=>((Z qy).lt q hq).1)⟩
    clear jy qm;go_wp2_with fail;go_roundw
    case rel=>exact⟨0+1,by omega,by go_num,Z HN⟩
    case measure=>simp[intOf]
   ·have vn:Hid (pay ([n0,n1,n2,n3,n4,n5,n6,n7].take (1+1))=pay ([n0,n1,n2,n3,n4,n5,n6,n7].take 1)++putU (zz n1)):=gy [n0,n1,n2,n3,n4,n5,n6,n7] rfl;have uj:=Z jc n1 (by simp);obtain⟨xS,xk⟩:=Z vf;have uB:=fC ([n0,n1,n2,n3,n4,n5,n6,n7].take 1) (fun m hm=>Z jc m (List.mem_of_mem_take hm));have jt:(pay ([n0,n1,n2,n3,n4,n5,n6,n7].take 1)).length<=80:=yN uB (by simp);generalize pay ([n0,n1,n2,n3,n4,n5,n6,n7].take 1)=L at xS vn jt;have pE:=Q xS;have uH:=Q xk;clear xS xk uB vf;have cA:∀W:World,Sem.run Tryz.prog (Instr.index 112 (.agg #[H n0,H n1,H n2,H n3,H n4,H n5,H n6,H n7]) (H 1)) W = .ok (H n1) W:=fun W=>by kernel_rfl
    go_wp2_with fail;clear cA;refine(gC n1 wr uj.1 uj.2).mono ?_;rintro e w2 ⟨v2,rfl,jf,xE⟩;have vv:=ft _ (zz_lt n1 uj.1 uj.2);obtain⟨g,cp,rfl,qZ,vQ⟩:=gx jf;have uA:=Q vQ;have qy:=Q (gp (Z pE) xE);have kG:Hid (hk.heap.size<=w2.heap.size):=yN (Z uH).size xE.size;have xq:=Q (lW (Z uH) xE);clear jf xE vQ;generalize putU (zz n1)=P at vn vv uA |-;go_wp2_with (at_builtin;go_must (refine wpList_append_own _ rfl _ _ 22 rfl hk.heap.size 5 i0 _ 1 1 Tryz.underlying22 vA uE uw uC rfl (by decide) (u3) _ _ rfl (Z qy) (U g 0) _ cp ((P).map (Value.int .u8)) rfl (by simp) (Z uA) (one_b _) (by unfold maxLen;omega) (by omega) (Z kG) ?_);intro v3 w3 xL M _;have jy:=Q xL;have qm:=Q M;clear xL M)
    have HN:Hid (BRow w3 hk.heap.size v3 (pay ([n0,n1,n2,n3,n4,n5,n6,n7].take (1+1)))/\yn hk w3):=by
     rw[Z vn];exact⟨gu (Z jy),(Z xq).grown (Z qm) (Z xq).size (fun q hq=>((Z qy).lt q hq).1)⟩
    clear jy qm;go_wp2_with fail;go_roundw
    case rel=>exact⟨1+1,by omega,by go_num,Z HN⟩
    case measure=>simp[intOf]
   ·have vn:Hid (pay ([n0,n1,n2,n3,n4,n5,n6,n7].take (2+1))=pay ([n0,n1,n2,n3,n4,n5,n6,n7].take 2)++putU (zz n2)):=gy [n0,n1,n2,n3,n4,n5,n6,n7] rfl;have uj:=Z jc n2 (by simp);obtain⟨xS,xk⟩:=Z vf;have uB:=fC ([n0,n1,n2,n3,n4,n5,n6,n7].take 2) (fun m hm=>Z jc m (List.mem_of_mem_take hm));have jt:(pay ([n0,n1,n2,n3,n4,n5,n6,n7].take 2)).length<=80:=yN uB (by simp);generalize pay ([n0,n1,n2,n3,n4,n5,n6,n7].take 2)=L at xS vn jt;have pE:=Q xS;have uH:=Q xk;clear xS xk uB vf;have cA:∀W:World,Sem.run Tryz.prog (Instr.index 112 (.agg #[H n0,H n1,H n2,H n3,H n4,H n5,H n6,H n7]) (H 2)) W = .ok (H n2) W:=fun W=>by kernel_rfl
    go_wp2_with fail;clear cA;refine(gC n2 wr uj.1 uj.2).mono ?_;rintro e w2 ⟨v2,rfl,jf,xE⟩;have vv:=ft _ (zz_lt n2 uj.1 uj.2);obtain⟨g,cp,rfl,qZ,vQ⟩:=gx jf;have uA:=Q vQ;have qy:=Q (gp (Z pE) xE);have kG:Hid (hk.heap.size<=w2.heap.size):=yN (Z uH).size xE.size;have xq:=Q (lW (Z uH) xE);clear jf xE vQ;generalize putU (zz n2)=P at vn vv uA |-;go_wp2_with (at_builtin;go_must (refine wpList_append_own _ rfl _ _ 22 rfl hk.heap.size 5 i0 _ 1 1 Tryz.underlying22 vA uE uw uC rfl (by decide) (u3) _ _ rfl (Z qy) (U g 0) _ cp ((P).map (Value.int .u8)) rfl (by simp) (Z uA) (one_b _) (by unfold maxLen;omega) (by omega) (Z kG) ?_);intro v3 w3 xL M _;have jy:=Q xL;have qm:=Q M;clear xL M)
    have HN:Hid (BRow w3 hk.heap.size v3 (pay ([n0,n1,n2,n3,n4,n5,n6,n7].take (2+1)))/\yn hk w3):=by
     rw[Z vn];exact⟨gu (Z jy),(Z xq).grown (Z qm) (Z xq).size (fun q hq=>((Z qy).lt q hq).1)⟩
    clear jy qm;go_wp2_with fail;go_roundw
    case rel=>exact⟨2+1,by omega,by go_num,Z HN⟩
    case measure=>simp[intOf]
   ·have vn:Hid (pay ([n0,n1,n2,n3,n4,n5,n6,n7].take (3+1))=pay ([n0,n1,n2,n3,n4,n5,n6,n7].take 3)++putU (zz n3)):=gy [n0,n1,n2,n3,n4,n5,n6,n7] rfl;have uj:=Z jc n3 (by simp);obtain⟨xS,xk⟩:=Z vf;have uB:=fC ([n0,n1,n2,n3,n4,n5,n6,n7].take 3) (fun m hm=>Z jc m (List.mem_of_mem_take hm));have jt:(pay ([n0,n1,n2,n3,n4,n5,n6,n7].take 3)).length<=80:=yN uB (by simp);generalize pay ([n0,n1,n2,n3,n4,n5,n6,n7].take 3)=L at xS vn jt;have pE:=Q xS;have uH:=Q xk;clear xS xk uB vf;have cA:∀W:World,Sem.run Tryz.prog (Instr.index 112 (.agg #[H n0,H n1,H n2,H n3,H n4,H n5,H n6,H n7]) (H 3)) W = .ok (H n3) W:=fun W=>by kernel_rfl
    go_wp2_with fail;clear cA;refine(gC n3 wr uj.1 uj.2).mono ?_;rintro e w2 ⟨v2,rfl,jf,xE⟩;have vv:=ft _ (zz_lt n3 uj.1 uj.2);obtain⟨g,cp,rfl,qZ,vQ⟩:=gx jf;have uA:=Q vQ;have qy:=Q (gp (Z pE) xE);have kG:Hid (hk.heap.size<=w2.heap.size):=yN (Z uH).size xE.size;have xq:=Q (lW (Z uH) xE);clear jf xE vQ;generalize putU (zz n3)=P at vn vv uA |-;go_wp2_with (at_builtin;go_must (refine wpList_append_own _ rfl _ _ 22 rfl hk.heap.size 5 i0 _ 1 1 Tryz.underlying22 vA uE uw uC rfl (by decide) (u3) _ _ rfl (Z qy) (U g 0) _ cp ((P).map (Value.int .u8)) rfl (by simp) (Z uA) (one_b _) (by unfold maxLen;omega) (by omega) (Z kG) ?_);intro v3 w3 xL M _;have jy:=Q xL;have qm:=Q M;clear xL M)
    have HN:Hid (BRow w3 hk.heap.size v3 (pay ([n0,n1,n2,n3,n4,n5,n6,n7].take (3+1)))/\yn hk w3):=by
     rw[Z vn];exact⟨gu (Z jy),(Z xq).grown (Z qm) (Z xq).size (fun q hq=>((Z qy).lt q hq).1)⟩
    clear jy qm;go_wp2_with fail;go_roundw
    case rel=>exact⟨3+1,by omega,by go_num,Z HN⟩
    case measure=>simp[intOf]
   ·have vn:Hid (pay ([n0,n1,n2,n3,n4,n5,n6,n7].take (4+1))=pay ([n0,n1,n2,n3,n4,n5,n6,n7].take 4)++putU (zz n4)):=gy [n0,n1,n2,n3,n4,n5,n6,n7] rfl;have uj:=Z jc n4 (by simp);obtain⟨xS,xk⟩:=Z vf;have uB:=fC ([n0,n1,n2,n3,n4,n5,n6,n7].take 4) (fun m hm=>Z jc m (List.mem_of_mem_take hm));have jt:(pay ([n0,n1,n2,n3,n4,n5,n6,n7].take 4)).length<=80:=yN uB (by simp);generalize pay ([n0,n1,n2,n3,n4,n5,n6,n7].take 4)=L at xS vn jt;have pE:=Q xS;have uH:=Q xk;clear xS xk uB vf;have cA:∀W:World,Sem.run Tryz.prog (Instr.index 112 (.agg #[H n0,H n1,H n2,H n3,H n4,H n5,H n6,H n7]) (H 4)) W = .ok (H n4) W:=fun W=>by kernel_rfl
    go_wp2_with fail;clear cA;refine(gC n4 wr uj.1 uj.2).mono ?_;rintro e w2 ⟨v2,rfl,jf,xE⟩;have vv:=ft _ (zz_lt n4 uj.1 uj.2);obtain⟨g,cp,rfl,qZ,vQ⟩:=gx jf;have uA:=Q vQ;have qy:=Q (gp (Z pE) xE);have kG:Hid (hk.heap.size<=w2.heap.size):=yN (Z uH).size xE.size;have xq:=Q (lW (Z uH) xE);clear jf xE vQ;generalize putU (zz n4)=P at vn vv uA |-;go_wp2_with (at_builtin;go_must (refine wpList_append_own _ rfl _ _ 22 rfl hk.heap.size 5 i0 _ 1 1 Tryz.underlying22 vA uE uw uC rfl (by decide) (u3) _ _ rfl (Z qy) (U g 0) _ cp ((P).map (Value.int .u8)) rfl (by simp) (Z uA) (one_b _) (by unfold maxLen;omega) (by omega) (Z kG) ?_);intro v3 w3 xL M _;have jy:=Q xL;have qm:=Q M;clear xL M)
    have HN:Hid (BRow w3 hk.heap.size v3 (pay ([n0,n1,n2,n3,n4,n5,n6,n7].take (4+1)))/\yn hk w3):=by
     rw[Z vn];exact⟨gu (Z jy),(Z xq).grown (Z qm) (Z xq).size (fun q hq=>((Z qy).lt q hq).1)⟩
    clear jy qm;go_wp2_with fail;go_roundw
    case rel=>exact⟨4+1,by omega,by go_num,Z HN⟩
    case measure=>simp[intOf]
   ·have vn:Hid (pay ([n0,n1,n2,n3,n4,n5,n6,n7].take (5+1))=pay ([n0,n1,n2,n3,n4,n5,n6,n7].take 5)++putU (zz n5)):=gy [n0,n1,n2,n3,n4,n5,n6,n7] rfl;have uj:=Z jc n5 (by simp);obtain⟨xS,xk⟩:=Z vf;have uB:=fC ([n0,n1,n2,n3,n4,n5,n6,n7].take 5) (fun m hm=>Z jc m (List.mem_of_mem_take hm));have jt:(pay ([n0,n1,n2,n3,n4,n5,n6,n7].take 5)).length<=80:=yN uB (by simp);generalize pay ([n0,n1,n2,n3,n4,n5,n6,n7].take 5)=L at xS vn jt;have pE:=Q xS;have uH:=Q xk;clear xS xk uB vf;have cA:∀W:World,Sem.run Tryz.prog (Instr.index 112 (.agg #[H n0,H n1,H n2,H n3,H n4,H n5,H n6,H n7]) (H 5)) W = .ok (H n5) W:=fun W=>by kernel_rfl
    go_wp2_with fail;clear cA;refine(gC n5 wr uj.1 uj.2).mono ?_;rintro e w2 ⟨v2,rfl,jf,xE⟩;have vv:=ft _ (zz_lt n5 uj.1 uj.2);obtain⟨g,cp,rfl,qZ,vQ⟩:=gx jf;have uA:=Q vQ;have qy:=Q (gp (Z pE) xE);have kG:Hid (hk.heap.size<=w2.heap.size):=yN (Z uH).size xE.size;have xq:=Q (lW (Z uH) xE);clear jf xE vQ;generalize putU (zz n5)=P at vn vv uA |-;go_wp2_with (at_builtin;go_must (refine wpList_append_own _ rfl _ _ 22 rfl hk.heap.size 5 i0 _ 1 1 Tryz.underlying22 vA uE uw uC rfl (by decide) (u3) _ _ rfl (Z qy) (U g 0) _ cp ((P).map (Value.int .u8)) rfl (by simp) (Z uA) (one_b _) (by unfold maxLen;omega) (by omega) (Z kG) ?_);intro v3 w3 xL M _;have jy:=Q xL;have qm:=Q M;clear xL M)
    have HN:Hid (BRow w3 hk.heap.size v3 (pay ([n0,n1,n2,n3,n4,n5,n6,n7].take (5+1)))/\yn hk w3):=by
     rw[Z vn];exact⟨gu (Z jy),(Z xq).grown (Z qm) (Z xq).size (fun q hq=>((Z qy).lt q hq).1)⟩
    clear jy qm;go_wp2_with fail;go_roundw
    case rel=>exact⟨5+1,by omega,by go_num,Z HN⟩
    case measure=>simp[intOf]
   ·have vn:Hid (pay ([n0,n1,n2,n3,n4,n5,n6,n7].take (6+1))=pay ([n0,n1,n2,n3,n4,n5,n6,n7].take 6)++putU (zz n6)):=gy [n0,n1,n2,n3,n4,n5,n6,n7] rfl;have uj:=Z jc n6 (by simp);obtain⟨xS,xk⟩:=Z vf;have uB:=fC ([n0,n1,n2,n3,n4,n5,n6,n7].take 6) (fun m hm=>Z jc m (List.mem_of_mem_take hm));have jt:(pay ([n0,n1,n2,n3,n4,n5,n6,n7].take 6)).length<=80:=yN uB (by simp);generalize pay ([n0,n1,n2,n3,n4,n5,n6,n7].take 6)=L at xS vn jt;have pE:=Q xS;have uH:=Q xk;clear xS xk uB vf;have cA:∀W:World,Sem.run Tryz.prog (Instr.index 112 (.agg #[H n0,H n1,H n2,H n3,H n4,H n5,H n6,H n7]) (H 6)) W = .ok (H n6) W:=fun W=>by kernel_rfl
    go_wp2_with fail;clear cA;refine(gC n6 wr uj.1 uj.2).mono ?_;rintro e w2 ⟨v2,rfl,jf,xE⟩;have vv:=ft _ (zz_lt n6 uj.1 uj.2);obtain⟨g,cp,rfl,qZ,vQ⟩:=gx jf;have uA:=Q vQ;have qy:=Q (gp (Z pE) xE);have kG:Hid (hk.heap.size<=w2.heap.size):=yN (Z uH).size xE.size;have xq:=Q (lW (Z uH) xE);clear jf xE vQ;generalize putU (zz n6)=P at vn vv uA |-;go_wp2_with (at_builtin;go_must (refine wpList_append_own _ rfl _ _ 22 rfl hk.heap.size 5 i0 _ 1 1 Tryz.underlying22 vA uE uw uC rfl (by decide) (u3) _ _ rfl (Z qy) (U g 0) _ cp ((P).map (Value.int .u8)) rfl (by simp) (Z uA) (one_b _) (by unfold maxLen;omega) (by omega) (Z kG) ?_);intro v3 w3 xL M _;have jy:=Q xL;have qm:=Q M;clear xL M)
    have HN:Hid (BRow w3 hk.heap.size v3 (pay ([n0,n1,n2,n3,n4,n5,n6,n7].take (6+1)))/\yn hk w3):=by
     rw[Z vn];exact⟨gu (Z jy),(Z xq).grown (Z qm) (Z xq).size (fun q hq=>((Z qy).lt q hq).1)⟩
    clear jy qm;go_wp2_with fail;go_roundw
    case rel=>exact⟨6+1,by omega,by go_num,Z HN⟩
    case measure=>simp[intOf]
   ·have vn:Hid (pay ([n0,n1,n2,n3,n4,n5,n6,n7].take (7+1))=pay ([n0,n1,n2,n3,n4,n5,n6,n7].take 7)++putU (zz n7)):=gy [n0,n1,n2,n3,n4,n5,n6,n7] rfl;have uj:=Z jc n7 (by simp);obtain⟨xS,xk⟩:=Z vf;have uB:=fC ([n0,n1,n2,n3,n4,n5,n6,n7].take 7) (fun m hm=>Z jc m (List.mem_of_mem_take hm));have jt:(pay ([n0,n1,n2,n3,n4,n5,n6,n7].take 7)).length<=80:=yN uB (by simp);generalize pay ([n0,n1,n2,n3,n4,n5,n6,n7].take 7)=L at xS vn jt;have pE:=Q xS;have uH:=Q xk;clear xS xk uB vf;have cA:∀W:World,Sem.run Tryz.prog (Instr.index 112 (.agg #[H n0,H n1,H n2,H n3,H n4,H n5,H n6,H n7]) (H 7)) W = .ok (H n7) W:=fun W=>by kernel_rfl
    go_wp2_with fail;clear cA;refine(gC n7 wr uj.1 uj.2).mono ?_;rintro e w2 ⟨v2,rfl,jf,xE⟩;have vv:=ft _ (zz_lt n7 uj.1 uj.2);obtain⟨g,cp,rfl,qZ,vQ⟩:=gx jf;have uA:=Q vQ;have qy:=Q (gp (Z pE) xE);have kG:Hid (hk.heap.size<=w2.heap.size):=yN (Z uH).size xE.size;have xq:=Q (lW (Z uH) xE);clear jf xE vQ;generalize putU (zz n7)=P at vn vv uA |-;go_wp2_with (at_builtin;go_must (refine wpList_append_own _ rfl _ _ 22 rfl hk.heap.size 5 i0 _ 1 1 Tryz.underlying22 vA uE uw uC rfl (by decide) (u3) _ _ rfl (Z qy) (U g 0) _ cp ((P).map (Value.int .u8)) rfl (by simp) (Z uA) (one_b _) (by unfold maxLen;omega) (by omega) (Z kG) ?_);intro v3 w3 xL M _;have jy:=Q xL;have qm:=Q M;clear xL M)
    have HN:Hid (BRow w3 hk.heap.size v3 (pay ([n0,n1,n2,n3,n4,n5,n6,n7].take (7+1)))/\yn hk w3):=by
     rw[Z vn];exact⟨gu (Z jy),(Z xq).grown (Z qm) (Z xq).size (fun q hq=>((Z qy).lt q hq).1)⟩
    clear jy qm;go_wp2_with fail;go_roundw
    case rel=>exact⟨7+1,by omega,by go_num,Z HN⟩
    case measure=>simp[intOf]
  ·obtain rfl:k=8:=by omega
   have HIN:Hid (BRow wr hk.heap.size u3 (pay [n0,n1,n2,n3,n4,n5,n6,n7])/\yn hk wr):=Z vf;clear vf;go_wp2_with fail;refine Z xV _ _ ?_;clear xV;go_wp2_with fail;go_ret;exact⟨_,rfl,bRow_base (Z HIN).1 (Z ud).size,(Z ud).trans ((Z HIN).2.mono (Z ud).size)⟩

theorem l06End_any (t:Tt)(ht:t.ok)(w:World) :
  Calls Tryz.prog 80 #[.agg #[H t.a,H t.b,H t.c,H t.d,H t.e,H t.f,H t.g,H t.h]] w fun e w'=>∃v,e=ym v/\BRow w' w.heap.size v (pay t.ns)/\yn w w':=by
 obtain⟨i0,vA,uE,uw,uC⟩:=info_parts Tryz.infoByte;obtain⟨n0,n1,n2,n3,n4,n5,n6,n7⟩:=t;have jc:Hid (∀n ∈ [n0,n1,n2,n3,n4,n5,n6,n7],I6 n):=ht;clear ht;show Calls _ _ _ _ fun e w'=>∃v,e=ym v/\BRow w' w.heap.size v (pay [n0,n1,n2,n3,n4,n5,n6,n7])/\yn w w';simp only;have xI:(w.alloc (J #[H n0,H n1,H n2,H n3,H n4,H n5,H n6,H n7] 43)).heap.size=w.heap.size+1:=size_madeE _ _;have uc:((w.alloc (J #[H n0,H n1,H n2,H n3,H n4,H n5,H n6,H n7] 43)).alloc (J #[H n0,H n1,H n2,H n3,H n4,H n5,H n6,H n7] 3)).heap.size=w.heap.size+1+1:=by rw[size_madeE,xI]
 have xR:=lT w (J #[H n0,H n1,H n2,H n3,H n4,H n5,H n6,H n7] 43);have xE:yn w ((w.alloc (J #[H n0,H n1,H n2,H n3,H n4,H n5,H n6,H n7] 43)).alloc (J #[H n0,H n1,H n2,H n3,H n4,H n5,H n6,H n7] 3)):=xR.alloc (by rw[xI];omega) _;have ud:=Q xR;have vW:Hid (World.rangeAt (w.alloc (J #[H n0,H n1,H n2,H n3,H n4,H n5,H n6,H n7] 43)) w.heap.size 0 [H n0,H n1,H n2,H n3,H n4,H n5,H n6,H n7]):=lE w [H n0,H n1,H n2,H n3,H n4,H n5,H n6,H n7] _;have HI2:Hid (World.rangeAt ((w.alloc (J #[H n0,H n1,H n2,H n3,H n4,H n5,H n6,H n7] 43)).alloc (J #[H n0,H n1,H n2,H n3,H n4,H n5,H n6,H n7] 3)) (w.heap.size+1) 0 [H n0,H n1,H n2,H n3,H n4,H n5,H n6,H n7]):=by have:=lE (w.alloc (J #[H n0,H n1,H n2,H n3,H n4,H n5,H n6,H n7] 43)) [H n0,H n1,H n2,H n3,H n4,H n5,H n6,H n7] 3;rw[xI] at this;exact this
 have xq:=Q xE;have bd:Hid (BRow (((w.alloc (J #[H n0,H n1,H n2,H n3,H n4,H n5,H n6,H n7] 43)).alloc (J #[H n0,H n1,H n2,H n3,H n4,H n5,H n6,H n7] 3)).alloc (J #[] 5)) (w.heap.size+1+1) (.slice (some (U (w.heap.size+1+1) 0)) 0 0) []):=by have:=World.ownsRow_made (base:=w.heap.size+1+1) (e:=5) (size:=1) ((w.alloc (J #[H n0,H n1,H n2,H n3,H n4,H n5,H n6,H n7] 43)).alloc (J #[H n0,H n1,H n2,H n3,H n4,H n5,H n6,H n7] 3)) #[] 0 (by rw[uc];omega) (by decide) rfl;rw[uc] at this;exact this
 have xZ:Hid (Below (w.heap.size+1+1) ((w.alloc (J #[H n0,H n1,H n2,H n3,H n4,H n5,H n6,H n7] 43)).alloc (J #[H n0,H n1,H n2,H n3,H n4,H n5,H n6,H n7] 3)) (((w.alloc (J #[H n0,H n1,H n2,H n3,H n4,H n5,H n6,H n7] 43)).alloc (J #[H n0,H n1,H n2,H n3,H n4,H n5,H n6,H n7] 3)).alloc (J #[] 5))):=(Below.refl _ _).alloc (by rw[uc];omega) _;have kc:Hid (w.heap.size+1+1<=(((w.alloc (J #[H n0,H n1,H n2,H n3,H n4,H n5,H n6,H n7] 43)).alloc (J #[H n0,H n1,H n2,H n3,H n4,H n5,H n6,H n7] 3)).alloc (J #[] 5)).heap.size):=by show _ <= _;rw[size_madeE,uc];omega
 have vL:=Q uc;clear xR xE xI uc;go_enter Tryz.func80,Tryz.ntmps80;refine lX fun ho xV=>?_;go_wp2_with fail;refine Z xV _ _ ?_;clear xV;obtain⟨z0,z1,z2,z3,z4,z5,z6,z7⟩:=yD (Z vW);refine lX fun ho xV=>?_;go_wp2_with fail;refine Z xV _ _ ?_;clear xV;clear z0 z1 z2 z3 z4 z5 z6 z7;refine lX fun ho xV=>?_;go_wp2_with fail;refine Z xV _ _ ?_;clear xV;generalize (((w.alloc (J #[H n0,H n1,H n2,H n3,H n4,H n5,H n6,H n7] 43)).alloc (J #[H n0,H n1,H n2,H n3,H n4,H n5,H n6,H n7] 3)).alloc (J #[] 5))=X3 at bd xZ kc |-;generalize ((w.alloc (J #[H n0,H n1,H n2,H n3,H n4,H n5,H n6,H n7] 43)).alloc (J #[H n0,H n1,H n2,H n3,H n4,H n5,H n6,H n7] 3))=X2 at HI2 xq xZ vL;clear vW ud;refine lX fun ho xV=>?_;go_wp2_with fail;go_loopw [4,5] (fun ov iv wr=>∃(k:Nat),k<=8/\iv=H k/\Hid (BRow wr (w.heap.size+1+1) ov (pay ([n0,n1,n2,n3,n4,n5,n6,n7].take k))/\Below (w.heap.size+1+1) X2 wr)) (fun _ iv _=>8-(intOf iv).toNat)
 case atStart=>exact⟨0,by omega,rfl,Z bd,Z xZ⟩
 case round =>
  obtain⟨k,X,rfl,vf⟩:=hrel
  by_cases xH:k<8
  ·obtain⟨n,hkn⟩:∃n,[n0,n1,n2,n3,n4,n5,n6,n7][k]? = some n:=⟨_,yH (by simpa using xH)⟩;have vn:Hid (pay ([n0,n1,n2,n3,n4,n5,n6,n7].take (k+1))=pay ([n0,n1,n2,n3,n4,n5,n6,n7].take k)++putU (zz n)):=gy [n0,n1,n2,n3,n4,n5,n6,n7] hkn;have uj:=Z jc n (yO hkn);obtain⟨xS,xk⟩:=Z vf;have uB:=fC ([n0,n1,n2,n3,n4,n5,n6,n7].take k) (fun m hm=>Z jc m (List.mem_of_mem_take hm));have jt:(pay ([n0,n1,n2,n3,n4,n5,n6,n7].take k)).length<=80:=yN uB (by simp;omega)
   have hvk:([H n0,H n1,H n2,H n3,H n4,H n5,H n6,H n7]:List Value)[k]? = some (H n):=by
    have:([H n0,H n1,H n2,H n3,H n4,H n5,H n6,H n7]:List Value) = [n0,n1,n2,n3,n4,n5,n6,n7].map (H):=rfl;rw[this,List.getElem?_map,hkn];rfl
   have q:wr.cell? (U (w.heap.size+1) k)=some (H n):=by
    have D:=Z HI2 k _ hvk;rw[Nat.zero_add] at D;exact(xk.cell (p:=(U (w.heap.size+1) k)) (show w.heap.size+1<w.heap.size+1+1 by omega)).trans D
   generalize pay ([n0,n1,n2,n3,n4,n5,n6,n7].take k)=L at xS vn jt;have pE:=Q xS;have uH:=Q xk;have uq:(k:Int)<8:=by omega
   have oB:(0:Int)<=k:=by omega
   clear xS xk uB vf hvk hkn;go_wp2_with fail;refine(l01Put_any n wr uj.1 uj.2).mono ?_;rintro e w2 ⟨v2,rfl,jf,xE⟩;have vv:=ft _ (zz_lt n uj.1 uj.2);obtain⟨g,cp,rfl,qZ,vQ⟩:=gx jf;have uA:=Q vQ;have qy:=Q (gp (Z pE) xE);have hX2:w.heap.size+1+1<=wr.heap.size:=by have:=(Z uH).size;have:=Z vL;omega
   have kG:Hid (w.heap.size+1+1<=w2.heap.size):=yN hX2 xE.size;have xK:=Q ((Z uH).trans (xE.mono hX2));clear jf xE vQ q;generalize putU (zz n)=P at vn vv uA |-;go_wp2_with (at_builtin;go_must (refine wpList_append_own _ rfl _ _ 22 rfl (w.heap.size+1+1) 5 i0 _ 1 1 Tryz.underlying22 vA uE uw uC rfl (by decide) u4 _ _ rfl (Z qy) (U g 0) _ cp (P.map (Value.int .u8)) rfl (by simp) (Z uA) (one_b _) (by unfold maxLen;omega) (by omega) (Z kG) ?_);intro v3 w3 xL M _;have jy:=Q xL;have qm:=Q M;clear xL M)
   have HN:Hid (BRow w3 (w.heap.size+1+1) v3 (pay ([n0,n1,n2,n3,n4,n5,n6,n7].take (k+1)))/\Below (w.heap.size+1+1) X2 w3):=by
    rw[Z vn];exact⟨gu (Z jy),(Z xK).grown (Z qm) (Z kG) (fun q hq=>((Z qy).lt q hq).1)⟩
   clear jy qm;go_wp2_with fail;go_roundw
   case rel=>exact⟨k+1,by omega,by go_num,Z HN⟩
   case measure=>simp[intOf];omega
  ·obtain rfl:k=8:=by omega
   have HIN:Hid (BRow wr (w.heap.size+1+1) u4 (pay [n0,n1,n2,n3,n4,n5,n6,n7])/\Below (w.heap.size+1+1) X2 wr):=Z vf;clear vf;go_wp2_with fail;refine Z xV _ _ ?_;clear xV;go_wp2_with fail;go_ret;exact⟨_,rfl,bRow_base (Z HIN).1 (by omega),(Z xq).trans ((Z HIN).2.mono (by omega))⟩
end Go.Proofs.YtbghmldggahjiaaGreatDoor
