/-.-/
import Derived.Test.YtbghmldggahjiaaGreatDoorUj48
set_option linter.unusedVariables false
set_option maxHeartbeats 6400000
set_option maxRecDepth 100000
namespace Go.Proofs.YtbghmldggahjiaaGreatDoor
open Go.RowKit
def jdV (l:List Int):Value:=if 65536<l.length then .tuple #[.agg #[.bool false,H 0,H 0],H 2] else .tuple #[vdV (judJ l).2,H 0]
def exL (l:List Int):List Cm:=if 65536<l.length then[] else if (judJ l).2.2=0 then(judJ l).1 else[]
def exC (l:List Int):Int:=if 65536<l.length then 2 else if (judJ l).2.2=0 then 0 else 8
theorem jdF_len {l:List Int}:∀(f k:Nat) (s:Int) (cs:List Cm),cs.length<=200->(jdF l f k s cs).1.length<=200
 | 0,k,s,cs,h=>by rw[jdF];exact h
 | f+1,k,s,cs,h=>by
  rw[jdF];cases frA l k s with
  | none=>exact h
  | some x =>
   obtain⟨m,n,t,s2⟩:=x;simp only;split
   ·exact h
   split
   ·exact h
   rename_i D;cases grpJ ((l.drop n).take (t-n)) cs with
   | inl y=>exact h
   | inr c=>exact jdF_len f _ _ _ (by simp;omega)
theorem judJ_len (l:List Int):(judJ l).1.length<=200:=by
 unfold judJ;split
 ·exact jdF_len _ _ _ _ (by simp)
 ·simp
theorem judged_any (v:Value)(l:List Int)(w:World)(hr:Rd w v l)(xC:dR v)(A:Bts l)(hl:l.length<=65536) :
  Calls Tryz.prog 21 #[v] w fun e w'=>∃hg,e=ym (xj hg 0)/\MrE w hg v (judJ l) w':=by
 obtain⟨a,c,rfl⟩:=eb hr;have pH:l.length<=c:=xC a _ c rfl;have xA:=lT w (J #[.slice a l.length c,H 0,H 0,H 0,H 0,H 1,.slice none 0 0,H 0,H 0,H 0,H 0,H 0,H 0,H 0,H 0,.slice none 0 0,H 0,H 0] 51)
 have HM:Hid (MJ w w.heap.size (.slice a l.length c) 0 0 0 0 [] tot0 (.slice none 0 0) (.slice none 0 0) (w.alloc (J #[.slice a l.length c,H 0,H 0,H 0,H 0,H 1,.slice none 0 0,H 0,H 0,H 0,H 0,H 0,H 0,H 0,H 0,.slice none 0 0,H 0,H 0] 51))):=
  ⟨⟨zj w (mjV (.slice a l.length c) 0 0 0 0 1 (.slice none 0 0) tot0 (.slice none 0 0) 0 0) 51,⟨_,heap_alloc_new _ _⟩,xA,Nat.le_refl _⟩,⟨rfl,.inl ⟨rfl,rfl⟩⟩,⟨rfl,.inl ⟨rfl,rfl⟩⟩,⟨rfl,rfl,rfl,rfl,rfl⟩⟩
 have uy:=Q (mrun_any _ (Z HM) rfl hr pH A hl);clear hr xC A xA HM;go_enter Tryz.func21,Tryz.ntmps21;go_wp2_with fail;refine(Z uy).mono ?_;rintro e w1 ⟨rfl,hm⟩;have HE:=Q hm;clear hm uy;go_wp2_with fail;refine bodyPost_ret (by simp[results,Tryz.results21,go_sem];try rfl) rfl ?_;exact⟨_,rfl,Z HE⟩
theorem mrE_cells {w:World}{hg:Nat}{v:Value}{lV:List Cm × Nat × Int}{W:World}(h:MrE w hg v lV W):W.cell? (U hg 3)=some (H lV.2.2)/\W.cell? (U hg 4)=some (H lV.2.1)/\yn w W/\hg<W.heap.size:=by
 by_cases h0:lV.2.2=0
 ·obtain⟨D,k,s,T,vq,vt,hm⟩:=h.2 h0;refine⟨?_,?_,hm.mb.bel,hm.mb.lt⟩
  ·rw[h0];exact Y hm.mb.box 3 rfl
  ·rw[D];exact Y hm.mb.box 4 rfl
 ·obtain⟨k,s,n,vq,T,vt,po,pv,hm⟩:=h.1 h0;exact⟨Y hm.box 3 rfl,Y hm.box 4 rfl,hm.bel,hm.lt⟩
theorem iN (v:Value)(l:List Int)(w:World)(hr:Rd w v l)(xC:dR v)(A:Bts l) :
  Calls Tryz.prog 8 #[v] w fun e w'=>e=ym (jdV l)/\yn w w':=by
 obtain⟨a,c,rfl⟩:=eb hr;obtain⟨xA,HX⟩:=lY w [.bool false,H 0,H 0] 24;have HB:=Q xA;have kt:w.heap.size<(w.alloc (J #[.bool false,H 0,H 0] 24)).heap.size:=by simp
 by_cases hl:65536<l.length
 ·have HD:Hid (jdV l = .tuple #[.agg #[.bool false,H 0,H 0],H 2]):=if_pos hl;rw[Z HD];have kQ:((65536:Int)<l.length):=by omega
  clear hr xC A xA;go_enter Tryz.func8,Tryz.ntmps8;go_wp2_with fail;have d:=Z HX;exact bodyPost_ret (by simp[results,Tryz.results8,go_sem,Y d 0 rfl,Y d 1 rfl,Y d 2 rfl];try rfl) rfl ⟨rfl,Z HB⟩
 ·have HD:Hid (jdV l = .tuple #[vdV (judJ l).2,H 0]):=if_neg hl;rw[Z HD];have kQ:¬ ((65536:Int)<l.length):=by omega
  have kD:=Q (judged_any _ l _ (zN hr xA ya) xC A (by omega));clear hr xC A xA;unfold vdV;generalize judJ l=JJ at kD |-;obtain⟨cs,x,r⟩:=JJ;simp only at kD |-;go_enter Tryz.func8,Tryz.ntmps8;go_wp2_with fail;generalize (w.alloc (J #[.bool false,H 0,H 0] 24))=W0 at HX HB kt kD |-;refine(Z kD).mono ?_;rintro e w1 ⟨hg,rfl,hm⟩;obtain⟨m3,m4,xR,-⟩:=mrE_cells hm;have uh:Hid (Bx w1.drew w.heap.size [.bool false,H 0,H 0]):=zm (zf (Z HX) xR kt);have ud:Hid (yn w w1.drew):=(lW (Z HB) xR).drew;clear hm xR kD HX HB;go_wp2_with fail;have y3:w1.drew.cell? (U hg 3)=some (H r):=m3;have y4:w1.drew.cell? (U hg 4)=some (H x):=m4;clear m3 m4;refine zw 14 (by kernel_rfl) (by kernel_rfl) ?_;simp only[yT,List.take_zero,yU,List.drop_zero]
  repeat still_step
  refine wpStill_nil ?_;generalize w1.drew=W2 at uh ud y3 y4 |-;obtain ⟨z0,z1,z2⟩:=q0_3 (Z uh) rfl;obtain ⟨f0,f1,f2⟩:=r0_3 (Z uh) rfl;have xt:=Q (zk (us:=[.bool (r==0),H x,H r]) (Z uh) rfl);have vB:=Q (zg w.heap.size ya [.bool (r==0),H x,H r] 0 _ (Z ud));go_wp2_with fail;rw[set3];have d:=Z xt;refine bodyPost_ret (by simp[results,Tryz.results8,go_sem,Y d 0 rfl,Y d 1 rfl,Y d 2 rfl];try rfl) rfl ?_;exact⟨rfl,Z vB⟩
theorem specPeak_any (v:Value)(l:List Int)(w:World)(hr:Rd w v l)(xC:dR v)(A:Bts l) :
  Calls Tryz.prog 18 #[v] w fun e w'=>e=ym (.tuple #[H (pkO (exL l)),H (pkL (exL l)),H (exC l)])/\yn w w':=by
 obtain⟨a,c,rfl⟩:=eb hr
 by_cases hl:65536<l.length
 ·have HD:Hid (exL l = []/\exC l=2):=⟨if_pos hl,if_pos hl⟩;rw[(Z HD).1,(Z HD).2];have kQ:((65536:Int)<l.length):=by omega
  clear hr xC A;go_enter Tryz.func18,Tryz.ntmps18;go_wp2_with fail;refine bodyPost_ret (by simp[results,Tryz.results18,go_sem];try rfl) rfl ?_;exact⟨rfl,Below.refl _ _⟩
 ·have HD:Hid (((judJ l).2.2=0->exL l=(judJ l).1/\exC l=0)/\((judJ l).2.2≠0->exL l = []/\exC l=8)):=⟨fun h=>⟨by unfold exL;rw[if_neg hl,if_pos h],by unfold exC;rw[if_neg hl,if_pos h]⟩,fun h=>⟨by unfold exL;rw[if_neg hl,if_neg h],by unfold exC;rw[if_neg hl,if_neg h]⟩⟩;have kQ:¬ ((65536:Int)<l.length):=by omega
  have kD:=Q (judged_any _ l w hr xC A (by omega));clear hr xC A;generalize exL l=EL at HD |-;generalize exC l=EC at HD |-;generalize judJ l=JJ at kD HD;go_enter Tryz.func18,Tryz.ntmps18;go_wp2_with fail;refine(Z kD).mono ?_;rintro e w1 ⟨hg,rfl,hm⟩;have HE:=Q hm;obtain⟨m3,-,xR,-⟩:=mrE_cells hm;have ud:=Q xR;clear hm xR kD
  by_cases h0:JJ.2.2=0
  ·obtain⟨-,k,s,T,vq,vt,hmj⟩:=(Z HE).2 h0;have m16:w1.cell? (U hg 16)=some (H (pkO JJ.1)):=Y hmj.mb.box 16 rfl;have m17:w1.cell? (U hg 17)=some (H (pkL JJ.1)):=Y hmj.mb.box 17 rfl;obtain⟨rfl,rfl⟩:=(Z HD).1 h0;rw[h0] at m3;clear hmj HE HD h0;go_wp2_with fail;go_quiet (fail);go_wp2_with fail;refine bodyPost_ret (by simp[results,Tryz.results18,go_sem];try rfl) rfl ?_;exact⟨rfl,zp (Z ud) _⟩
  ·obtain⟨rfl,rfl⟩:=(Z HD).2 h0;generalize JJ.2.2=r at m3 h0;have pu:(r != 0)=true:=by simpa using h0
   clear h0 HE HD;go_wp2_with fail;refine bodyPost_ret (by simp[results,Tryz.results18,go_sem];try rfl) rfl ?_;exact⟨rfl,Z ud⟩
theorem cm_src {W:World}{B:Nat}{v:Value}{l:List Cm}(h:W.ownsRow B 57 8 v l.length (l.flatMap Cm.vs)):(v = .slice none 0 0/\l = []) \/ ∃g cap,v = .slice (some (U g 0)) l.length cap/\∀j u,(l.flatMap Cm.vs)[j]? = some u->W.cell? (((U g 0):Addr).add j)=some u:=by
 have hc:=fun g M=>h.cells (g:=g) M;rcases h.2 with⟨D,h0⟩|⟨g,cap,xr,D,A,M,xC,_⟩
 ·exact .inl ⟨D,List.length_eq_zero_iff.1 h0⟩
 ·exact .inr ⟨g,cap,D,hc g (by rw[D];rfl)⟩
theorem one_cms (l:List Cm):∀u∈l.flatMap Cm.vs,u.oneCell'=true:=fun u hu=>by
 obtain⟨o,_,K⟩:=List.mem_flatMap.1 hu;exact one_cm o u K
theorem specExtract_any (v:Value)(l:List Int)(w:World)(hr:Rd w v l)(xC:dR v)(A:Bts l) :
  Calls Tryz.prog 12 #[v] w fun e w'=>∃u,e=ym (.tuple #[u,H (exC l)])/\w'.ownsRow w.heap.size 57 8 u (exL l).length ((exL l).flatMap Cm.vs)/\yn w w':=by
 obtain⟨i0,hi,uE,uw,uC⟩:=info_parts infoCJ;obtain⟨a,c,rfl⟩:=eb hr
 by_cases hl:65536<l.length
 ·have HD:Hid (exL l = []/\exC l=2):=⟨if_pos hl,if_pos hl⟩;rw[(Z HD).1,(Z HD).2];have kQ:((65536:Int)<l.length):=by omega
  have HO:=Q (World.ownsRow_made (base:=w.heap.size) (e:=57) (size:=8) w #[] 0 ya (by decide) rfl);have HB:Hid (yn w (w.alloc (J #[] 57))):=lT _ _;clear hr xC A;go_enter Tryz.func12,Tryz.ntmps12;go_wp2_with fail;go_ret2;exact⟨_,rfl,Z HO,Z HB⟩
 ·have HD:Hid (((judJ l).2.2=0->exL l=(judJ l).1/\exC l=0)/\((judJ l).2.2≠0->exL l = []/\exC l=8)):=⟨fun h=>⟨by unfold exL;rw[if_neg hl,if_pos h],by unfold exC;rw[if_neg hl,if_pos h]⟩,fun h=>⟨by unfold exL;rw[if_neg hl,if_neg h],by unfold exC;rw[if_neg hl,if_neg h]⟩⟩;have kQ:¬ ((65536:Int)<l.length):=by omega
  have kD:=Q (judged_any _ l w hr xC A (by omega));have HLN:=Q (judJ_len l);clear hr xC A;generalize exL l=EL at HD |-;generalize exC l=EC at HD |-;generalize judJ l=JJ at kD HD HLN;go_enter Tryz.func12,Tryz.ntmps12;go_wp2_with fail;refine(Z kD).mono ?_;rintro e w1 ⟨hg,rfl,hm⟩;have HE:=Q hm;obtain⟨m3,-,xR,-⟩:=mrE_cells hm;have ud:=Q xR;clear hm xR kD;have xI:=(Z ud).size
  by_cases h0:JJ.2.2=0
  ·obtain⟨-,k,s,T,vq,vt,hmj⟩:=(Z HE).2 h0;obtain⟨rfl,rfl⟩:=(Z HD).1 h0;rw[h0] at m3;have m15:=Y hmj.mb.box 15 rfl;have jj:=Q hmj.told;have hM:=hmj.mb.lt;have oo:=Z HLN;clear hmj HE HD h0 HLN;have HO:Hid ((w1.alloc (J #[] 57)).ownsRow w.heap.size 57 8 (.slice (some (U w1.heap.size 0)) 0 0) 0 []):=World.ownsRow_made w1 #[] 0 xI (by decide) rfl;have xq:Hid (yn w (w1.alloc (J #[] 57))):=(Z ud).alloc xI _;have ue:=Q (fP (Z jj) ((Below.refl w1.heap.size w1).alloc ya (J #[] 57)));have m15':=(((Below.refl w1.heap.size w1).alloc ya (J #[] 57)).cell (p:=(U hg 15)) hM).trans m15;clear m15 jj;rcases cm_src (Z ue) with⟨rfl,hnil⟩|⟨gb,cap,rfl,xm⟩
   ·have HN:=Q hnil;clear hnil;go_wp2_with (at_builtin;go_must (refine wpList_append_own_none rfl _ _ 31 rfl w.heap.size 57 i0 8 Tryz.underlying31 hi _ 0 [] rfl (Z HO) rfl ?_));go_ret2;exact⟨_,rfl,by rw[Z HN];exact Z HO,Z xq⟩
   ·go_wp2_with (at_builtin;go_must (refine wpList_append_own _ rfl _ _ 31 rfl w.heap.size 57 i0 _ 8 72 Tryz.underlying31 hi uE uw uC rfl (by decide) _ 0 [] rfl (Z HO) (U gb 0) JJ.1.length cap (JJ.1.flatMap Cm.vs) rfl (Z ue).1 xm (one_cms _) (by unfold maxLen;omega) (by omega) (by rw[zh];omega) ?_);intro v5 w5 qC kN _);go_ret2;exact⟨_,rfl,by simpa using qC,(Z xq).trans (fZ kN (fun b A=>((Z HO).lt b A).1) (by rw[zh];omega))⟩
  ·obtain⟨rfl,rfl⟩:=(Z HD).2 h0;generalize JJ.2.2=r at m3 h0;have pu:(r != 0)=true:=by simpa using h0
   have HO:=Q (World.ownsRow_made (base:=w.heap.size) (e:=57) (size:=8) w1 #[] 0 xI (by decide) rfl);have HB:Hid (yn w (w1.alloc (J #[] 57))):=(Z ud).alloc xI _;clear h0 HE HD;go_wp2_with fail;go_ret2;exact⟨_,rfl,Z HO,Z HB⟩
theorem catch_panickingG (p:Addr)(x:Value)(c k:Int)(older:List PanicEntry)(w:World)(hc:w.cell? p=some x)(hz:w.frozen? p=false) :
  CallsD Tryz.prog 55 #[.pointer (some p)] (.panicking ({ v:=dU c k,recovered:=false } :: older)) w fun e u' w' =>
   e=ym (.tuple #[])/\u' = .panicking ({ v:=dU c k,recovered:=true } :: older)/\w'=w.setCell p (dU c k):=by
 refine callsD_of_wpS Tryz.func55 rfl fun c₀ cs hu=>?_;simp only[dU] at hu |-;apply wpS_seq;apply wpS_region;simp[wpOpsS,go_sem,recoverD,hu,Tryz.ntmps55,Exit.thenS,ta_fault];apply wpS_seq;apply wpS_region;simp[wpOpsS,go_sem,Exit.thenS];refine wpS_cond (t:=true) (by simp[Act.eval,Array.replicate]) ?_;simp only[if_true];apply wpS_region;simp[wpOpsS,go_sem,hc,hz,bodyPostS,results,Tryz.results55]
theorem catch_idleG (p:Addr)(w:World) :
  CallsD Tryz.prog 55 #[.pointer (some p)] .returning w fun e u' w'=>e=ym (.tuple #[])/\u' = .returning/\w'=w:=by
 refine callsD_of_wpS Tryz.func55 rfl fun c₀ cs hu=>?_;apply wpS_seq;apply wpS_region;simp[wpOpsS,go_sem,recoverD,hu,Tryz.ntmps55,Exit.thenS,ta_nil];apply wpS_seq;apply wpS_region;simp[wpOpsS,go_sem,Exit.thenS];refine wpS_cond (t:=false) (by simp[Act.eval,Array.replicate]) ?_;simp only[Bool.false_eq_true,if_false];refine wpS_of_wp (wp_skip ?_);cases c₀
 simp_all [bodyPostS,results,Tryz.results55]
theorem rd_form {w:World}{v:Value}{l:List Int}(h:Rd w v l):∃a n c,v = .slice a n c:=by
 obtain⟨a,c,e⟩:=eb h;exact⟨a,_,c,e⟩
def zFr:Value:=.agg #[.int .u8 0,.slice none 0 0,H 0,H 0]
theorem frFn_any {wb W:World}{R S:Nat}{v:Value}{l:List Int}{k:Nat}(s:Int)(h:RSr wb R v l k W)(h0:0<=s)(D:s<65521)(hS:W.cell? (U S 0)=some (H s))(hSl:S<wb.heap.size) :
  Calls Tryz.prog 28 #[xj R 0,xj S 0] W fun e w'=>FrEnd wb R v l W (frA l k s) e w':=by
 have hR:=h.lt;have uB:=h.le;obtain⟨xA,HX⟩:=lY W [.int .u8 0,.slice none 0 0,H 0,H 0] 61;have HF:=Q (frame_rs s (h.below xA hR) h0 D);have HG:=Q (gk xA R);have HZ:Hid (W.heap.size<(W.alloc (J #[.int .u8 0,.slice none 0 0,H 0,H 0] 61)).heap.size):=by show _ < _;simp
 have c0:=(xA.cell (p:=(U S 0)) (yK W _ hS)).trans hS;generalize frA l k s=FR at HF |-;clear h hS xA;go_enter Tryz.func28,Tryz.ntmps28;go_wp2_with fail;generalize W.alloc (J #[.int .u8 0,.slice none 0 0,H 0,H 0] 61)=W0 at HF HX HG HZ c0 |-;refine(Z HF).mono ?_;rintro e w1 ⟨M,hs,hn⟩;have pm:=Q (zC (Z HG) M);have uh:=Q (zQ (Z HX) (M.block W.heap.size (Z HZ) (by simp;omega)));cases FR with
 | none =>
  obtain⟨p,rfl⟩:=hn rfl;clear M hs hn;go_wp2_with fail;exact⟨rfl,gE (Z pm) rfl _⟩
 | some x =>
  obtain⟨m,n,t,s2⟩:=x;obtain⟨pv,rfl,hp,hc,hr⟩:=hs m n t s2 rfl;obtain⟨pa,pl,pc,rfl⟩:=rd_form hp;have z0:=Y (Z uh) 0 rfl;have z1:=Y (Z uh) 1 rfl;have z2:=Y (Z uh) 2 rfl;have z3:=Y (Z uh) 3 rfl;have f0:=zc (Z uh) 0 (by decide);have f1:=zc (Z uh) 1 (by decide);have f2:=zc (Z uh) 2 (by decide);have f3:=zc (Z uh) 3 (by decide);have HP:=Q hp;have HC:=Q hc;have xt:=Q (zk (us:=[.int .u8 m,.slice pa pl pc,H n,H s2]) (Z uh) rfl);have kC:=Q (iR [.int .u8 m,.slice pa pl pc,H n,H s2] (Z pm) ya);have pR:=Q (iP [.int .u8 m,.slice pa pl pc,H n,H s2] hr (show R≠W.heap.size by omega));clear M hs hn hp hc hr;go_wp2_with fail;rw[set4];have d:=Z xt;exact bodyPost_ret (by simp[results,Tryz.results28,go_sem,Y d 0 rfl,Y d 1 rfl,Y d 2 rfl,Y d 3 rfl];try rfl) rfl (frEnd_done (Z kC) rfl (Z HP) (Z HC) (Z pR))
def TgE (wb:World)(B:Nat)(v:Value)(l:List Int)(w:World)(r:Option (Int × Nat × Nat × Int))(e:Ending)(w':World):Prop:=
 w.grownBy w' (some B)/\(∀m n t s,r=some (m,n,t,s)->∃pv,e=ym (.tuple #[.agg #[.int .u8 m,pv,H n,H s],.nilIface])/\Rd wb pv ((l.drop n).take (t-n))/\dR pv/\Rdr B w' v ((t+2:Nat):Int))/\(r=none->∃p,e=ym (.tuple #[zFr,dU 3 p]))
theorem tryG_box (w:World):Bx ((w.alloc (J #[.int .u8 0,.slice none 0 0,H 0,H 0] 61)).alloc (J #[.nilIface] 74)) w.heap.size [.int .u8 0,.slice none 0 0,H 0,H 0]/\Bx ((w.alloc (J #[.int .u8 0,.slice none 0 0,H 0,H 0] 61)).alloc (J #[.nilIface] 74)) (w.heap.size+1) [.nilIface]/\((w.alloc (J #[.int .u8 0,.slice none 0 0,H 0,H 0] 61)).alloc (J #[.nilIface] 74)).heap.size=w.heap.size+2/\yn w ((w.alloc (J #[.int .u8 0,.slice none 0 0,H 0,H 0] 61)).alloc (J #[.nilIface] 74)):=by
 refine⟨zf (zj w [.int .u8 0,.slice none 0 0,H 0,H 0] 61) ((Below.refl (w.heap.size+1) _).alloc (by simp) _) (by omega),?_,by simp,((Below.refl _ w).alloc ya _).alloc (by simp) _⟩;have h:=zj (w.alloc (J #[.int .u8 0,.slice none 0 0,H 0,H 0] 61)) [.nilIface] 74;rwa[show(w.alloc (J #[.int .u8 0,.slice none 0 0,H 0,H 0] 61)).heap.size=w.heap.size+1 by simp] at h
theorem tryG_any {wb:World}{B S k:Nat}{v:Value}{l:List Int}(s:Int)(w:World)(h:RSr wb B v l k w)(h0:0<=s)(D:s<65521)(hS:w.cell? (U S 0)=some (H s))(hSl:S<wb.heap.size) :
  Calls Tryz.prog 36 #[xj B 0,.func (.func 28) #[] #[xj S 0]] w fun e w'=>TgE wb B v l w (frA l k s) e w':=by
 have hmf:∀(fn:Fn) (first cap:Array Value) (w:World),(Instr.makeFunc fn first cap).run Tryz.prog w = .ok (.func fn first cap) w:=fun _ _ _ _=>rfl;have jA:=h.lt;have uB:=h.le;obtain⟨hX,hY,hZ,xA⟩:=tryG_box w;have HR:=Q (h.below xA jA);have HX:=Q hX;have HY:=Q hY;have HZ:=Q hZ;have HB:=Q xA;have c0:=(xA.cell (p:=(U S 0)) (yK w _ hS)).trans hS;have om:=h.ll;have ar:=h.kk;obtain⟨a,cap,hv⟩:=eb h.rd;have HRd:=Q (fun W hW hc=>frFn_any (k:=k) (v:=v) (l:=l) (W:=W) (wb:=wb) (R:=B) (S:=S) s hW h0 D hc hSl);generalize frA l k s=FR at HRd |-;clear h xA hX hY hZ hS;unfold TgE zFr
 go_enter_defers Tryz.func36,Tryz.ntmps36
 go_wp2_with fail;generalize ((w.alloc (J #[.int .u8 0,.slice none 0 0,H 0,H 0] 61)).alloc (J #[.nilIface] 74))=W1 at HR HX HY HZ HB c0 |-;have kX:=(Z HR).r;rw[hv] at kX;refine(check_ok B k a l.length cap _ kX (by omega) (by omega) om).mono ?_;rintro e w1 ⟨rfl,q,rfl⟩;have vW:Hid (RSr wb B v l k (W1.drewN q)):=(Z HR).go (dZ W1 q _) ((Z HR).r.drewN q) ar;clear kX;go_wp2_with fail;refine(Z HRd _ (Z vW) c0).mono ?_;rintro e w2 ⟨M,hs,hn⟩;have hz:=Z HZ;have hX:Bx w2 w.heap.size [.int .u8 0,.slice none 0 0,H 0,H 0]:=zQ (fN (Z HX) q) (M.block w.heap.size (by show w.heap.size<W1.heap.size;omega) (by simp;omega));have hY:Bx w2 (w.heap.size+1) [.nilIface]:=zQ (fN (Z HY) q) (M.block (w.heap.size+1) (by show w.heap.size+1<W1.heap.size;omega) (by simp;omega));have HG:Hid (w.grownBy w2 (some B)):=zC (gk (Z HB) B) (zC (dZ W1 q _) M);have ze:=Y hY 0 rfl;have fe:=zc hY 0 (by decide);cases FR with
 | none =>
  obtain⟨p,rfl⟩:=hn rfl;have xt:=ej (j:=0) (u:=dU 3 p) hX (show w.heap.size≠w.heap.size+1 by omega);have kI:=eh (j:=0) (u:=dU 3 p) hY (by decide);have kC:=Q (gr_set1 (j:=0) (u:=dU 3 p) (Z HG) (show w.heap.size<=w.heap.size+1 by omega));clear M hs hn hX hY hz HX HY HR HB HZ HRd vW HG c0;go_wp2_with fail;refine leaves_cons (f:=55) (args:=#[xj (w.heap.size+1) 0]) (by simp) (by simp[go_sem]) ?_;refine(catch_panickingG (U (w.heap.size+1) 0) .nilIface 3 p [] _ ze fe).mono ?_;rintro e u' w'' ⟨rfl,rfl,hw⟩;rw[hw];clear hw;generalize w2.setCell (U (w.heap.size+1) 0) (dU 3 p)=WF at xt kI kC |-;simp[Leaves,settle,results,Tryz.results36,go_sem,Y xt 0 rfl,Y xt 1 rfl,Y xt 2 rfl,Y xt 3 rfl,Y kI 0 rfl];exact⟨Z kC,p,rfl⟩
 | some x =>
  obtain⟨m,n,t,s⟩:=x;obtain⟨pv,rfl,hp,hc,hr⟩:=hs m n t s rfl;obtain⟨pa,pl,pc,rfl⟩:=rd_form hp;have HP:=Q hp;have HC:=Q hc;have z0:=Y hX 0 rfl;have f0:=zc hX 0 (by decide);have z1:=Y hX 1 rfl;have f1:=zc hX 1 (by decide);have z2:=Y hX 2 rfl;have f2:=zc hX 2 (by decide);have z3:=Y hX 3 rfl;have f3:=zc hX 3 (by decide);have xt:=Q (ej (j:=0) (u:=.nilIface) (zk (us:=[.int .u8 m,.slice pa pl pc,H n,H s]) hX rfl) (show w.heap.size≠w.heap.size+1 by omega));have kI:=Q (eh (j:=0) (u:=.nilIface) (bx_others (us:=[.int .u8 m,.slice pa pl pc,H n,H s]) hY (show w.heap.size+1≠w.heap.size by omega)) (by decide));have kC:=Q (gr_set1 (j:=0) (u:=.nilIface) (iR [.int .u8 m,.slice pa pl pc,H n,H s] (Z HG) (Nat.le_refl w.heap.size)) (show w.heap.size<=w.heap.size+1 by omega));have pR:=Q (rdr_grown (iP [.int .u8 m,.slice pa pl pc,H n,H s] hr (show B≠w.heap.size by omega)) (eF _ (U (w.heap.size+1) 0) .nilIface) (by show B≠w.heap.size+1;omega));clear M hs hn hX hY hz HX HY HR HB HZ HRd vW HG hp hc hr c0;go_wp2_with fail;rw[set4];clear z0 f0 z1 f1 z2 f2 z3 f3 ze fe;generalize (w2.setCells w.heap.size 0 [.int .u8 m,.slice pa pl pc,H n,H s]).setCell (U (w.heap.size+1) 0) .nilIface=WF at xt kI kC pR |-;refine leaves_cons (f:=55) (args:=#[xj (w.heap.size+1) 0]) (by simp) (by simp[go_sem]) ?_;refine(catch_idleG (U (w.heap.size+1) 0) _).mono ?_;rintro e u' w'' ⟨rfl,rfl,hw⟩;subst hw;have d:=Z xt;simp[Leaves,settle,results,Tryz.results36,go_sem,Y d 0 rfl,Y d 1 rfl,Y d 2 rfl,Y d 3 rfl,Y (Z kI) 0 rfl];refine⟨Z kC,?_⟩;rintro m' n' t' s' rfl rfl rfl rfl;exact⟨_,⟨rfl,rfl,rfl,rfl⟩,Z HP,Z HC,by simpa using Z pR⟩
def RgE (w:World)(l:List Int)(r:Option (Int × Nat × Nat × Int))(e:Ending)(w':World):Prop:=
 yn w w'/\(∀m n t s,r=some (m,n,t,s)->∃pa pl pc,e=ym (.tuple #[.agg #[.int .u8 m,.slice pa pl pc,H n,H s],H ((t+2:Nat):Int),H 0])/\Rd w (.slice pa pl pc) ((l.drop n).take (t-n))/\dR (.slice pa pl pc))/\(r=none->e=ym (.tuple #[zFr,H 0,H 3]))
theorem rdG_box (w:World)(v:Value)(k:Int):Bx ((w.alloc (J #[.int .u8 0,.slice none 0 0,H 0,H 0] 61)).alloc (J #[v,H k] 72)) w.heap.size [.int .u8 0,.slice none 0 0,H 0,H 0]/\Rdr (w.heap.size+1) ((w.alloc (J #[.int .u8 0,.slice none 0 0,H 0,H 0] 61)).alloc (J #[v,H k] 72)) v k/\yn w ((w.alloc (J #[.int .u8 0,.slice none 0 0,H 0,H 0] 61)).alloc (J #[v,H k] 72))/\((w.alloc (J #[.int .u8 0,.slice none 0 0,H 0,H 0] 61)).alloc (J #[v,H k] 72)).heap.size=w.heap.size+2:=by
 have hs:(w.alloc (J #[.int .u8 0,.slice none 0 0,H 0,H 0] 61)).heap.size=w.heap.size+1:=by simp
 refine⟨zf (zj w [.int .u8 0,.slice none 0 0,H 0,H 0] 61) ((Below.refl (w.heap.size+1) _).alloc (by simp) _) (by omega),?_,((Below.refl _ w).alloc ya _).alloc (by simp) _,by simp⟩;have h:=rdr_new (w.alloc (J #[.int .u8 0,.slice none 0 0,H 0,H 0] 61)) v k;rwa[hs] at h
theorem readG_any (v:Value)(l:List Int)(k S:Nat)(s:Int)(w:World)(xU:Rd w v l)(xC:dR v)(A:Bts l)(hl:l.length<=65536)(X:k<=l.length)(hE:ErrT w)(h0:0<=s)(D:s<65521)(hS:w.cell? (U S 0)=some (H s)) :
  Calls Tryz.prog 27 #[v,H k,.func (.func 28) #[] #[xj S 0]] w fun e w'=>RgE w l (frA l k s) e w':=by
 obtain⟨hX,hR,hB,hZ⟩:=rdG_box w v k;have hSl:=yK w _ hS;have HT:=Q (tryG_any (wb:=w) (B:=w.heap.size+1) (S:=S) (k:=k) (v:=v) (l:=l) s _ ⟨xU,xC,by omega,hB,hR,X,hl,A⟩ h0 D ((hB.cell (p:=(U S 0)) hSl).trans hS) hSl);obtain⟨a,cap,rfl⟩:=eb xU;have HX:=Q hX;have HB:=Q hB;have HZ:=Q hZ;have HE:=Q hE;clear hX hR hB hZ hE xU xC A hS;generalize frA l k s=FR at HT |-;go_enter Tryz.func27,Tryz.ntmps27;go_wp2_with fail;generalize ((w.alloc (J #[.int .u8 0,.slice none 0 0,H 0,H 0] 61)).alloc (J #[.slice a l.length cap,H k] 72))=W0 at HT HX HB HZ |-;refine(Z HT).mono ?_;rintro e W1 ⟨M,hs,hn⟩;have hz:=Z HZ;have xR:=(Z HB).trans (gr_below M (show w.heap.size<=w.heap.size+1 by omega) (by omega));have hX1:=zQ (Z HX) (M.block w.heap.size (by omega) (by simp));have uw:w.heap.size+2<=W1.heap.size:=by have:=M.size;omega
 cases FR with
 | some x =>
  obtain⟨m,n,t,s2⟩:=x;obtain⟨pv,rfl,hp,hc,hr⟩:=hs m n t s2 rfl;obtain⟨pa,pl,pc,rfl⟩:=rd_form hp;have HP:=Q hp;have HC:=Q hc;obtain⟨jB,oI⟩:=lY W1 [.int .u8 m,.slice pa pl pc,H n,H s2] 61;have xF:=Q (zf hX1 jB (by omega));have hr2:=hU hr jB (by omega);have xq:=Q (xR.trans (jB.mono (by omega)));clear M hs hn hp hc HX HB HZ hz hX1 jB xR hr HT HE;go_wp2_with fail;generalize (W1.alloc (J #[.int .u8 m,.slice pa pl pc,H n,H s2] 61))=W2 at oI xF hr2 xq |-;obtain⟨c1,c2,c3⟩:=hr2;have x0:=Y (Z oI) 0 rfl;have x1:=Y (Z oI) 1 rfl;have x2:=Y (Z oI) 2 rfl;have x3:=Y (Z oI) 3 rfl;have z0:=Y (Z xF) 0 rfl;have z1:=Y (Z xF) 1 rfl;have z2:=Y (Z xF) 2 rfl;have z3:=Y (Z xF) 3 rfl;have bi:=zc (Z xF) 0 (by decide);have bj:=zc (Z xF) 1 (by decide);have bm:=zc (Z xF) 2 (by decide);have bo:=zc (Z xF) 3 (by decide);have xt:=Q (zk (us:=[.int .u8 m,.slice pa pl pc,H n,H s2]) (Z xF) rfl);have vB:=Q (zg w.heap.size ya [.int .u8 m,.slice pa pl pc,H n,H s2] 0 W2 (Z xq));clear oI xF xq
  go_region_with (fail)
  all_goals try go_wp2_with fail
  all_goals
   rw[set4];generalize W2.setCells w.heap.size 0 [.int .u8 m,.slice pa pl pc,H n,H s2]=WF at xt vB |-;have d:=zm (Z xt);refine bodyPost_ret (v:=.tuple #[.agg #[.int .u8 m,.slice pa pl pc,H n,H s2],H ((t+2:Nat):Int),H 0]) ?_ rfl ⟨(Z vB).drew,(fun _ _ _ _ h=>by cases h;exact⟨pa,pl,pc,rfl,Z HP,Z HC⟩),fun h=>by cases h⟩;simp[results,Tryz.f27,go_sem,Y d 0 rfl,Y d 1 rfl,Y d 2 rfl,Y d 3 rfl]
 | none =>
  obtain⟨p,rfl⟩:=hn rfl;have jB:=lT W1 (J #[.int .u8 0,.slice none 0 0,H 0,H 0] 61);have uC:(W1.alloc (J #[.int .u8 0,.slice none 0 0,H 0,H 0] 61)).heap.size=W1.heap.size+1:=by simp
  have hbb:Below (W1.heap.size+1) (W1.alloc (J #[.int .u8 0,.slice none 0 0,H 0,H 0] 61)) ((W1.alloc (J #[.int .u8 0,.slice none 0 0,H 0,H 0] 61)).alloc (J #[.int .u8 0,.slice none 0 0,H 0,H 0] 61)):=(Below.refl _ _).alloc (by omega) _
  have oJ:Hid (Bx ((W1.alloc (J #[.int .u8 0,.slice none 0 0,H 0,H 0] 61)).alloc (J #[.int .u8 0,.slice none 0 0,H 0,H 0] 61)) (W1.heap.size+1) [.int .u8 0,.slice none 0 0,H 0,H 0]):=by
   have h:=zj (W1.alloc (J #[.int .u8 0,.slice none 0 0,H 0,H 0] 61)) [.int .u8 0,.slice none 0 0,H 0,H 0] 61;rw[uC] at h;exact h
  have uz:=Q (zf (zf hX1 jB (by omega)) hbb (by omega));have xZ:=Q ((xR.trans (jB.mono (by omega))).trans (hbb.mono (by omega)));have HZ3:Hid (((W1.alloc (J #[.int .u8 0,.slice none 0 0,H 0,H 0] 61)).alloc (J #[.int .u8 0,.slice none 0 0,H 0,H 0] 61)).heap.size=W1.heap.size+2):=by show _ = _;simp
  have HE3:=Q (zY (Z HE) (Z xZ) ya);unfold zFr dU;clear M hs hn HX HB HZ hz hX1 jB hbb xR HT uC HE;go_wp2_with fail;generalize ((W1.alloc (J #[.int .u8 0,.slice none 0 0,H 0,H 0] 61)).alloc (J #[.int .u8 0,.slice none 0 0,H 0,H 0] 61))=W2 at oJ uz xZ HZ3 HE3 |-;have y0:=Y (Z oJ) 0 rfl;have y1:=Y (Z oJ) 1 rfl;have y2:=Y (Z oJ) 2 rfl;have y3:=Y (Z oJ) 3 rfl
  have uF:Hid (Calls Tryz.prog 37 #[.iface 107 (.agg #[H 3,H p])] W2.drew fun e w3=>e=ym (H 3)/\Bx w3 (W1.heap.size+1) [.int .u8 0,.slice none 0 0,H 0,H 0]/\Bx w3 w.heap.size [.int .u8 0,.slice none 0 0,H 0,H 0]/\yn w w3):=by
   refine(codeOf_any 3 p W2.drew (Z HE3)).mono ?_;rintro e w3 ⟨rfl,xN⟩;have hzz:W2.drew.heap.size=W1.heap.size+2:=Z HZ3;exact⟨rfl,zf (zm (Z oJ)) xN (by omega),zf (zm (Z uz)) xN (by omega),(Z xZ).drew.trans (xN.mono (Z xZ).drew.size)⟩
  go_region_with (go_at_call 37;refine(Z uF).mono ?_;rintro e w3 ⟨rfl,hN,hQ,hQB⟩;have HQ:=Q hQ;have HQB:=Q hQB;have g0:=Y hN 0 rfl;have g1:=Y hN 1 rfl;have g2:=Y hN 2 rfl;have g3:=Y hN 3 rfl;have z0:=Y hQ 0 rfl;have bi:=zc hQ 0 (by decide);have z1:=Y hQ 1 rfl;have bj:=zc hQ 1 (by decide);have z2:=Y hQ 2 rfl;have bm:=zc hQ 2 (by decide);have z3:=Y hQ 3 rfl;have bo:=zc hQ 3 (by decide);clear hN hQ hQB)
  all_goals try go_wp2_with fail
  all_goals
   rw[set4];have xt:=Q (zk (us:=[.int .u8 0,.slice none 0 0,H 0,H 0]) (Z HQ) rfl);have vB:=Q (zg w.heap.size ya [.int .u8 0,.slice none 0 0,H 0,H 0] 0 w3 (Z HQB));generalize w3.setCells w.heap.size 0 [.int .u8 0,.slice none 0 0,H 0,H 0]=WF at xt vB |-;have d:=Z xt;refine bodyPost_ret (v:=.tuple #[zFr,H 0,H 3]) ?_ rfl ⟨Z vB,(fun _ _ _ _ h=>by cases h),fun _=>rfl⟩;simp[results,Tryz.f27,go_sem,zFr,Y d 0 rfl,Y d 1 rfl,Y d 2 rfl,Y d 3 rfl]
theorem set13 (W:World)(b:Nat)(v0 v1 v2 v3 v4 v5 v6 v7 v8 v9 v10 v11 v12:Value):((((((((((((W.setCell (U b 0) v0).setCell (U b 1) v1).setCell (U b 2) v2).setCell (U b 3) v3).setCell (U b 4) v4).setCell (U b 5) v5).setCell (U b 6) v6).setCell (U b 7) v7).setCell (U b 8) v8).setCell (U b 9) v9).setCell (U b 10) v10).setCell (U b 11) v11).setCell (U b 12) v12=W.setCells b 0 [v0,v1,v2,v3,v4,v5,v6,v7,v8,v9,v10,v11,v12]:=by
 simp only[World.setCells]
structure JL0 (w:World) (lV:Nat) (cs:List Cm) (vq vt:Value) (W:World):Prop where
 jg:JG lV w.heap.size W cs vq vt
 b2:Bx W w.heap.size [.int .i64 0,.slice none 0 0,.int .i64 0,.int .i64 0,.int .i64 0,.int .i64 0,.int .i64 0,.int .i64 0,.int .i64 0,.int .i64 0,.slice none 0 0,.int .i64 0,.int .i64 0]
 t2:∃cur,W.heap[w.heap.size]? = some (.cells cur 45 (0,0))
 b3:Bx W (w.heap.size+1) [.bool false,.int .i64 0,.int .i64 0]
 t3:∃cur,W.heap[w.heap.size+1]? = some (.cells cur 24 (0,0))
 bel:Below w.heap.size w W
 hJ:w.heap.size+1<lV
structure JL (w:World) (lV S:Nat) (s:Int) (cs:List Cm) (vq vt:Value) (W:World):Prop where
 j0:JL0 w lV cs vq vt W
 sb:Bx W S [.int .i64 s]
 ts:∃cur,W.heap[S]? = some (.cells cur 3 (0,0))
 hS:lV<S
 hl:S<W.heap.size
theorem gY {w:World}{lV:Nat}{cs:List Cm}{vq vt:Value}{W W':World}(h:JL0 w lV cs vq vt W)(A:yn W W'):JL0 w lV cs vq vt W':=by
 have D:=h.hJ;have E:=h.jg.lt;exact⟨jg_below h.jg A,zf h.b2 A (by omega),iD h.t2 A,zf h.b3 A (by omega),iD h.t3 A,h.bel.trans (A.mono h.bel.size),D⟩
theorem jl_below {w:World}{lV S:Nat}{s:Int}{cs:List Cm}{vq vt:Value}{W W':World}(h:JL w lV S s cs vq vt W)(A:yn W W'):JL w lV S s cs vq vt W':=
 ⟨gY h.j0 A,zf h.sb A h.hl,iD h.ts A,h.hS,yJ h.hl A.size⟩
theorem jl_kp {w:World}{lV S:Nat}{s:Int}{cs cs':List Cm}{vq vt ux vU:Value}{W W':World}(h:JL w lV S s cs vq vt W)(X:Kp lV vt W W')(hj:JG lV w.heap.size W' cs' ux vU):JL w lV S s cs' ux vU W':=by
 have D:=h.j0.hJ;have E:=h.hS;have h3:=h.hl;have blk:∀ {b:Nat} {T:TypeId},b<W.heap.size->b≠lV->T ≠ 57->(∃xr,W.heap[b]? = some (.cells xr T (0,0)))->W'.heap[b]? = W.heap[b]?:=fun A hn hT ht=>X.block _ A hn (zy h.j0.jg.told ht hT);have e2:=blk (b:=w.heap.size) (by omega) (by omega) (by decide) h.j0.t2;have e3:=blk (b:=w.heap.size+1) (by omega) (by omega) (by decide) h.j0.t3;have es:=blk (b:=S) h3 (by omega) (by decide) h.ts;have tp:∀ {b:Nat} {T:TypeId},W'.heap[b]? = W.heap[b]?->(∃xr,W.heap[b]? = some (.cells xr T (0,0)))->∃xr,W'.heap[b]? = some (.cells xr T (0,0)):=fun e ⟨xr,hc⟩=>⟨xr,e.trans hc⟩;refine⟨⟨hj,zQ h.j0.b2 e2,tp e2 h.j0.t2,zQ h.j0.b3 e3,tp e3 h.j0.t3,?_,D⟩,zQ h.sb es,tp es h.ts,E,yJ h3 X.size⟩;refine⟨X.os.trans h.j0.bel.os,X.tape.trans h.j0.bel.tape,X.output.trans h.j0.bel.output,yN h.j0.bel.size X.size,fun k hl=>?_⟩;refine(X.block k (yJ hl h.j0.bel.size) (by omega) (fun e=>?_)).trans (h.j0.bel.block k hl);have:=(h.j0.jg.told.lt k e.symm).1;omega
theorem jl_sum {w:World}{lV S:Nat}{s:Int}{cs:List Cm}{vq vt:Value}{W:World}(h:JL w lV S s cs vq vt W)(s':Int):JL w lV S s' cs vq vt (W.setCell (U S 0) (H s')):=by
 have D:=h.j0.hJ;have E:=h.hS;have oth:∀ {b:Nat},b≠S->(W.setCell (U S 0) (H s')).heap[b]? = W.heap[b]?:=fun A=>yS _ _ _ _ A;have tp:∀ {b:Nat} {T:TypeId},b≠S->(∃xr,W.heap[b]? = some (.cells xr T (0,0)))->∃xr,(W.setCell (U S 0) (H s')).heap[b]? = some (.cells xr T (0,0)):=fun A ⟨xr,hc⟩=>⟨xr,(oth A).trans hc⟩;exact⟨⟨⟨zQ h.j0.jg.box (oth (by omega)),tp (by omega) h.j0.jg.typ,dT h.j0.jg.row (zy h.j0.jg.row h.ts (by decide)) 0 _,dT h.j0.jg.told (zy h.j0.jg.told h.ts (by decide)) 0 _,h.j0.jg.hJ⟩,ej h.j0.b2 (by omega),tp (by omega) h.j0.t2,ej h.j0.b3 (by omega),tp (by omega) h.j0.t3,zg S (by omega) [H s'] 0 W h.j0.bel,D⟩,eh (j:=0) h.sb (by show 0<1;decide),gP h.ts,E,by have:=h.hl;simpa[World.setCell] using this⟩
theorem run_gr (cs:List Cm)(h:cs.length<=200):(runS cs).t.gr=cs.length:=by
 have e:(runS cs).t=(runS cs).g.foldl wgT tot0:=run_fold cs ⟨1,[],[],tot0⟩ rfl;have hl:=(gR cs h).2.2.2;rw[e,(wg_al (runS cs).g (t:=tot0) (u:=tot0) ⟨rfl,rfl,rfl,rfl,rfl⟩ (by decide) (by rw[hl];show(0:Int) + _ <= _;omega)).2.1,hl];show(0:Int) + _ = _;omega
theorem evsJ_bad {p:List Int}:∀(f k:Nat) (g:Gr) (es:List Ev) (q:Nat) (r:Int),evsJ p f k g es = .bad q r->r≠0/\q<=p.length
 | 0,k,g,es,q,r,h=>by rw[evsJ] at h;cases h
 | f+1,k,g,es,q,r,h=>by
  rw[evsJ] at h;split at h
  ·cases h
  cases he:evA p k with
  | none=>rw[he] at h;cases h;exact⟨by decide,by omega⟩
  | some x =>
   obtain⟨e,n⟩:=x;rw[he] at h;simp only at h;split at h
   ·exact evsJ_bad f _ _ _ _ _ h
   ·rename_i h0;cases h;exact⟨h0,by omega⟩
theorem grpJ_rule {p:List Int}{cs:List Cm}{q:Nat}{r:Int}(h:grpJ p cs = .inl (q,r)):r≠0/\q<=p.length:=by
 unfold grpJ at h;split at h
 ·rename_i D;cases h;exact evsJ_bad _ _ _ _ _ _ D
 ·split at h
  ·cases h
  ·cases h;exact⟨by decide,Nat.le_refl _⟩
def JtE (w:World)(r:List Cm × Nat × Int)(e:Ending)(w':World):Prop:=∃vq vt,e=ym (.tuple #[.agg (jgV r.1 vq vt).toArray,vdV r.2])/\ORow w' w.heap.size vq (runS r.1).l/\w'.ownsRow w.heap.size 57 8 vt r.1.length (r.1.flatMap Cm.vs)/\yn w w'
theorem jl_end {w:World}{lV:Nat}{cs:List Cm}{qa ta:Option Addr}{qc tc:Nat}{W:World}(h:JL0 w lV cs (.slice qa (runS cs).l.length qc) (.slice ta cs.length tc) W)(x:Nat × Int){b:Bool}(A:b=decide (x.2=0)) :
  Bx ((W.setCells w.heap.size 0 [H (runS cs).n,.slice qa (runS cs).l.length qc,H (runS cs).t.gr,H (runS cs).t.ac,H (runS cs).t.rf,H (runS cs).t.tr,H (runS cs).t.vo,H (runS cs).t.no,H (runS cs).t.li,H (runS cs).t.le,.slice ta cs.length tc,H (pkO cs),H (pkL cs)]).setCells (w.heap.size+1) 0 [.bool b,H x.1,H x.2]) w.heap.size [H (runS cs).n,.slice qa (runS cs).l.length qc,H (runS cs).t.gr,H (runS cs).t.ac,H (runS cs).t.rf,H (runS cs).t.tr,H (runS cs).t.vo,H (runS cs).t.no,H (runS cs).t.li,H (runS cs).t.le,.slice ta cs.length tc,H (pkO cs),H (pkL cs)]/\Bx ((W.setCells w.heap.size 0 [H (runS cs).n,.slice qa (runS cs).l.length qc,H (runS cs).t.gr,H (runS cs).t.ac,H (runS cs).t.rf,H (runS cs).t.tr,H (runS cs).t.vo,H (runS cs).t.no,H (runS cs).t.li,H (runS cs).t.le,.slice ta cs.length tc,H (pkO cs),H (pkL cs)]).setCells (w.heap.size+1) 0 [.bool b,H x.1,H x.2]) (w.heap.size+1) [.bool b,H x.1,H x.2] /\
  JtE w (cs,x) (ym (.tuple #[.agg #[H (runS cs).n,.slice qa (runS cs).l.length qc,H (runS cs).t.gr,H (runS cs).t.ac,H (runS cs).t.rf,H (runS cs).t.tr,H (runS cs).t.vo,H (runS cs).t.no,H (runS cs).t.li,H (runS cs).t.le,.slice ta cs.length tc,H (pkO cs),H (pkL cs)],.agg #[.bool b,H x.1,H x.2]])) ((W.setCells w.heap.size 0 [H (runS cs).n,.slice qa (runS cs).l.length qc,H (runS cs).t.gr,H (runS cs).t.ac,H (runS cs).t.rf,H (runS cs).t.tr,H (runS cs).t.vo,H (runS cs).t.no,H (runS cs).t.li,H (runS cs).t.le,.slice ta cs.length tc,H (pkO cs),H (pkL cs)]).setCells (w.heap.size+1) 0 [.bool b,H x.1,H x.2]):=by
 have D:=h.hJ
 have n2:∀ {e z n:Nat} {v:Value} {xs:List Value},W.ownsRow w.heap.size e z v n xs->45 ≠ e->24 ≠ e->((W.setCells w.heap.size 0 [H (runS cs).n,.slice qa (runS cs).l.length qc,H (runS cs).t.gr,H (runS cs).t.ac,H (runS cs).t.rf,H (runS cs).t.tr,H (runS cs).t.vo,H (runS cs).t.no,H (runS cs).t.li,H (runS cs).t.le,.slice ta cs.length tc,H (pkO cs),H (pkL cs)]).setCells (w.heap.size+1) 0 [.bool b,H x.1,H x.2]).ownsRow w.heap.size e z v n xs:=fun K hA hB =>
  eP (zy K h.t3 hB) _ _ _ (eP (zy K h.t2 hA) _ _ _ K)
 refine⟨bx_others (zk h.b2 rfl) (by omega),zk (bx_others h.b3 (by omega)) rfl,_,_,by rw[A];rfl,n2 h.jg.row (by decide) (by decide),n2 h.jg.told (by decide) (by decide),zg _ (by omega) _ _ _ (zg _ ya _ _ _ h.bel)⟩
theorem drew_sets (b:Nat):∀(vs:List Value) (o:Nat) (W:World),(W.setCells b o vs).drew=W.drew.setCells b o vs
 | [],_,_=>rfl
 | v::vs,o,W=>by rw[World.setCells,World.setCells,drew_sets b vs];rfl
theorem jt_ret {w:World}{lV:Nat}{cs:List Cm}{qa ta:Option Addr}{qc tc:Nat}{W:World}(h:JL0 w lV cs (.slice qa (runS cs).l.length qc) (.slice ta cs.length tc) W)(x:Nat × Int){b:Bool}(A:b=decide (x.2=0)){T:Array Value}(E:T.getD 2 F=xj w.heap.size 0)(h3:T.getD 3 F=xj (w.heap.size+1) 0) :
  bodyPost Tryz.prog Tryz.f20 (fun e w'=>JtE w (cs,x) e w') Exit.ret { tmps:=T,defers:=[] } ((W.setCells w.heap.size 0 [H (runS cs).n,.slice qa (runS cs).l.length qc,H (runS cs).t.gr,H (runS cs).t.ac,H (runS cs).t.rf,H (runS cs).t.tr,H (runS cs).t.vo,H (runS cs).t.no,H (runS cs).t.li,H (runS cs).t.le,.slice ta cs.length tc,H (pkO cs),H (pkL cs)]).setCells (w.heap.size+1) 0 [.bool b,H x.1,H x.2]):=by
 obtain⟨dd,hE3,hEE⟩:=jl_end h x A;generalize (W.setCells w.heap.size 0 [H (runS cs).n,.slice qa (runS cs).l.length qc,H (runS cs).t.gr,H (runS cs).t.ac,H (runS cs).t.rf,H (runS cs).t.tr,H (runS cs).t.vo,H (runS cs).t.no,H (runS cs).t.li,H (runS cs).t.le,.slice ta cs.length tc,H (pkO cs),H (pkL cs)]).setCells (w.heap.size+1) 0 [.bool b,H x.1,H x.2]=WF at dd hE3 hEE |-;refine bodyPost_ret ?_ rfl hEE;have h2':=E;have h3':=h3;rw[Array.getD_eq_getD_getElem?] at h2' h3';simp[results,Tryz.results20,go_sem,h2',h3',Y dd 0 rfl,Y dd 1 rfl,Y dd 2 rfl,Y dd 3 rfl,Y dd 4 rfl,Y dd 5 rfl,Y dd 6 rfl,Y dd 7 rfl,Y dd 8 rfl,Y dd 9 rfl,Y dd 10 rfl,Y dd 11 rfl,Y dd 12 rfl,Y hE3 0 rfl,Y hE3 1 rfl,Y hE3 2 rfl]
theorem judgeTape_any (bI:Hid CloseG)(v:Value)(l:List Int)(w:World)(hr:Rd w v l)(xC:dR v)(A:Bts l)(hl:l.length<=65536)(hE:ErrT w) :
  Calls Tryz.prog 20 #[v] w fun e w'=>JtE w (judJ l) e w':=by
 have hmf:∀(fn:Fn) (first cap:Array Value) (w:World),(Instr.makeFunc fn first cap).run Tryz.prog w = .ok (.func fn first cap) w:=fun _ _ _ _=>rfl;have HR:=Q hr;have HCP:=Q xC;have kZ:=Q A;have HE:=Q hE;obtain⟨a,c,rfl⟩:=eb hr;have aZ:=Q (judJ.eq_1 l);have HS0:=Q (io [84,74,49] 1 (by omega) (by omega));have HHP:=Q (fun vp W D E=>hasPrefix_any (.slice a l.length c) vp l [84,74,49] W D xC E A head_bts (by decide) (by omega));have HHS:=Q (fun W=>headSum_any W);simp only[List.length_cons,List.length_nil] at HHP;generalize sumL [84,74,49] 1=s0 at HHS aZ HS0;generalize judJ l=JJ at aZ |-;have xZ:Hid (yn w (((w.alloc (J #[H 0,.slice none 0 0,H 0,H 0,H 0,H 0,H 0,H 0,H 0,H 0,.slice none 0 0,H 0,H 0] 45)).alloc (J #[.bool false,H 0,H 0] 24)).alloc (J #[H 1,.slice none 0 0,H 0,H 0,H 0,H 0,H 0,H 0,H 0,H 0,.slice none 0 0,H 0,H 0] 45))):=(((Below.refl _ w).alloc ya _).alloc (by simp) _).alloc (by simp;omega) _;have kG:Hid ((((w.alloc (J #[H 0,.slice none 0 0,H 0,H 0,H 0,H 0,H 0,H 0,H 0,H 0,.slice none 0 0,H 0,H 0] 45)).alloc (J #[.bool false,H 0,H 0] 24)).alloc (J #[H 1,.slice none 0 0,H 0,H 0,H 0,H 0,H 0,H 0,H 0,H 0,.slice none 0 0,H 0,H 0] 45)).heap.size=w.heap.size+1+1+1):=by show _ = _;simp
 have HJ00:Hid (JL0 w (w.heap.size+1+1) [] (.slice none 0 0) (.slice none 0 0) (((w.alloc (J #[H 0,.slice none 0 0,H 0,H 0,H 0,H 0,H 0,H 0,H 0,H 0,.slice none 0 0,H 0,H 0] 45)).alloc (J #[.bool false,H 0,H 0] 24)).alloc (J #[H 1,.slice none 0 0,H 0,H 0,H 0,H 0,H 0,H 0,H 0,H 0,.slice none 0 0,H 0,H 0] 45))):=by
  have g1:(w.alloc (J #[H 0,.slice none 0 0,H 0,H 0,H 0,H 0,H 0,H 0,H 0,H 0,.slice none 0 0,H 0,H 0] 45)).heap.size=w.heap.size+1:=by simp
  have g2:((w.alloc (J #[H 0,.slice none 0 0,H 0,H 0,H 0,H 0,H 0,H 0,H 0,H 0,.slice none 0 0,H 0,H 0] 45)).alloc (J #[.bool false,H 0,H 0] 24)).heap.size=w.heap.size+1+1:=by simp
  have k3:Below (w.heap.size+1+1) ((w.alloc (J #[H 0,.slice none 0 0,H 0,H 0,H 0,H 0,H 0,H 0,H 0,H 0,.slice none 0 0,H 0,H 0] 45)).alloc (J #[.bool false,H 0,H 0] 24)) (((w.alloc (J #[H 0,.slice none 0 0,H 0,H 0,H 0,H 0,H 0,H 0,H 0,H 0,.slice none 0 0,H 0,H 0] 45)).alloc (J #[.bool false,H 0,H 0] 24)).alloc (J #[H 1,.slice none 0 0,H 0,H 0,H 0,H 0,H 0,H 0,H 0,H 0,.slice none 0 0,H 0,H 0] 45)):=(Below.refl _ _).alloc (by omega) _;have k2:Below (w.heap.size+1) (w.alloc (J #[H 0,.slice none 0 0,H 0,H 0,H 0,H 0,H 0,H 0,H 0,H 0,.slice none 0 0,H 0,H 0] 45)) ((w.alloc (J #[H 0,.slice none 0 0,H 0,H 0,H 0,H 0,H 0,H 0,H 0,H 0,.slice none 0 0,H 0,H 0] 45)).alloc (J #[.bool false,H 0,H 0] 24)):=(Below.refl _ _).alloc (by omega) _;have b1:=zj w [H 0,.slice none 0 0,H 0,H 0,H 0,H 0,H 0,H 0,H 0,H 0,.slice none 0 0,H 0,H 0] 45;have b2:=zj (w.alloc (J #[H 0,.slice none 0 0,H 0,H 0,H 0,H 0,H 0,H 0,H 0,H 0,.slice none 0 0,H 0,H 0] 45)) [.bool false,H 0,H 0] 24;have b3:=zj ((w.alloc (J #[H 0,.slice none 0 0,H 0,H 0,H 0,H 0,H 0,H 0,H 0,H 0,.slice none 0 0,H 0,H 0] 45)).alloc (J #[.bool false,H 0,H 0] 24)) [H 1,.slice none 0 0,H 0,H 0,H 0,H 0,H 0,H 0,H 0,H 0,.slice none 0 0,H 0,H 0] 45;rw[g1] at b2;rw[g2] at b3;have n1:=heap_alloc_new w (J #[H 0,.slice none 0 0,H 0,H 0,H 0,H 0,H 0,H 0,H 0,H 0,.slice none 0 0,H 0,H 0] 45);have n2:=heap_alloc_new (w.alloc (J #[H 0,.slice none 0 0,H 0,H 0,H 0,H 0,H 0,H 0,H 0,H 0,.slice none 0 0,H 0,H 0] 45)) (J #[.bool false,H 0,H 0] 24);have n3:=heap_alloc_new ((w.alloc (J #[H 0,.slice none 0 0,H 0,H 0,H 0,H 0,H 0,H 0,H 0,H 0,.slice none 0 0,H 0,H 0] 45)).alloc (J #[.bool false,H 0,H 0] 24)) (J #[H 1,.slice none 0 0,H 0,H 0,H 0,H 0,H 0,H 0,H 0,H 0,.slice none 0 0,H 0,H 0] 45);rw[g1] at n2;rw[g2] at n3;refine⟨⟨b3,⟨_,n3⟩,⟨rfl,.inl ⟨rfl,rfl⟩⟩,⟨rfl,.inl ⟨rfl,rfl⟩⟩,by omega⟩,zf (zf b1 k2 (by omega)) k3 (by omega),⟨_,(k3.block _ (by omega)).trans ((k2.block _ (by omega)).trans n1)⟩,zf b2 k3 (by omega),⟨_,(k3.block _ (by omega)).trans n2⟩,Z xZ,by omega⟩
 have hcv:(convert 22 22 (.slice (some (U (w.heap.size+1+1+1) 0)) 3 3)).run Tryz.prog ((((w.alloc (J #[H 0,.slice none 0 0,H 0,H 0,H 0,H 0,H 0,H 0,H 0,H 0,.slice none 0 0,H 0,H 0] 45)).alloc (J #[.bool false,H 0,H 0] 24)).alloc (J #[H 1,.slice none 0 0,H 0,H 0,H 0,H 0,H 0,H 0,H 0,H 0,.slice none 0 0,H 0,H 0] 45)).alloc (.cells #[.int .u8 84,.int .u8 74,.int .u8 49] 5)) = .ok (.slice (some (U (w.heap.size+1+1+1) 0)) 3 3) ((((w.alloc (J #[H 0,.slice none 0 0,H 0,H 0,H 0,H 0,H 0,H 0,H 0,H 0,.slice none 0 0,H 0,H 0] 45)).alloc (J #[.bool false,H 0,H 0] 24)).alloc (J #[H 1,.slice none 0 0,H 0,H 0,H 0,H 0,H 0,H 0,H 0,H 0,.slice none 0 0,H 0,H 0] 45)).alloc headO):=by
  have h:=conv_head (((w.alloc (J #[H 0,.slice none 0 0,H 0,H 0,H 0,H 0,H 0,H 0,H 0,H 0,.slice none 0 0,H 0,H 0] 45)).alloc (J #[.bool false,H 0,H 0] 24)).alloc (J #[H 1,.slice none 0 0,H 0,H 0,H 0,H 0,H 0,H 0,H 0,H 0,.slice none 0 0,H 0,H 0] 45));unfold yq at h;rwa[Z kG] at h
 have hrh:Rd ((((w.alloc (J #[H 0,.slice none 0 0,H 0,H 0,H 0,H 0,H 0,H 0,H 0,H 0,.slice none 0 0,H 0,H 0] 45)).alloc (J #[.bool false,H 0,H 0] 24)).alloc (J #[H 1,.slice none 0 0,H 0,H 0,H 0,H 0,H 0,H 0,H 0,H 0,.slice none 0 0,H 0,H 0] 45)).alloc headO) (.slice (some (U (w.heap.size+1+1+1) 0)) 3 3) [84,74,49]:=by
  have h:=rd_head (((w.alloc (J #[H 0,.slice none 0 0,H 0,H 0,H 0,H 0,H 0,H 0,H 0,H 0,.slice none 0 0,H 0,H 0] 45)).alloc (J #[.bool false,H 0,H 0] 24)).alloc (J #[H 1,.slice none 0 0,H 0,H 0,H 0,H 0,H 0,H 0,H 0,H 0,.slice none 0 0,H 0,H 0] 45));unfold yq at h;rwa[Z kG] at h
 have HRH:=Q hrh;have HJ0:Hid (JL0 w (w.heap.size+1+1) [] (.slice none 0 0) (.slice none 0 0) ((((w.alloc (J #[H 0,.slice none 0 0,H 0,H 0,H 0,H 0,H 0,H 0,H 0,H 0,.slice none 0 0,H 0,H 0] 45)).alloc (J #[.bool false,H 0,H 0] 24)).alloc (J #[H 1,.slice none 0 0,H 0,H 0,H 0,H 0,H 0,H 0,H 0,H 0,.slice none 0 0,H 0,H 0] 45)).alloc headO)):=gY (Z HJ00) (lT _ _);clear hr xC A hE hrh xZ HJ00 kG;generalize (((w.alloc (J #[H 0,.slice none 0 0,H 0,H 0,H 0,H 0,H 0,H 0,H 0,H 0,.slice none 0 0,H 0,H 0] 45)).alloc (J #[.bool false,H 0,H 0] 24)).alloc (J #[H 1,.slice none 0 0,H 0,H 0,H 0,H 0,H 0,H 0,H 0,H 0,.slice none 0 0,H 0,H 0] 45)).alloc headO=hk at hcv HRH HJ0;go_enter Tryz.func20,Tryz.ntmps20;go_wp2_with fail;refine(Z HHP _ hk (zN (Z HR) (Z HJ0).bel ya) (Z HRH)).mono ?_;rintro e w1 ⟨rfl,rfl⟩;clear hcv HRH HHP
 by_cases af:l.take 3 = [84,74,49]
 ·rw[if_pos af] at aZ;have e1:decide (l.take (0+1+1+1) = [84,74,49])=true:=by simpa using af
  rw[e1];have h3l:3<=l.length:=by have:=congrArg List.length af;rw[List.length_take] at this;simp only[List.length_cons,List.length_nil] at this;omega
  clear af e1;go_wp2_with fail;refine(Z HHS w1).mono ?_;rintro e w2 ⟨rfl,xE⟩;have kf:=lT w2 (J #[H s0] 3)
  have HJL:Hid (JL w (w.heap.size+1+1) w2.heap.size s0 [] (.slice none 0 0) (.slice none 0 0) (w2.alloc (J #[H s0] 3))):=
   ⟨gY (Z HJ0) (lW xE kf),zj w2 [H s0] 3,⟨_,heap_alloc_new _ _⟩,yJ (Z HJ0).jg.lt xE.size,by simp⟩
  have HK0:Hid (JJ=jdK l 3 s0 []):=Z aZ;clear xE kf HJ0 HHS aZ;go_wp2_with fail;generalize (w2.alloc (J #[H s0] 3))=X2 at HJL |-;generalize w2.heap.size=S at HJL |-;go_loopw [5] (fun av wr=>∃(k:Nat) (s:Int) (cs:List Cm) (vq vt:Value),av=H k/\k<=l.length/\0<=s/\s<65521/\cs.length<=200/\JL w (w.heap.size+1+1) S s cs vq vt wr/\JJ=jdK l k s cs) (fun av _=>l.length-(intOf av).toNat)
  case atStart=>exact⟨3,s0,[],_,_,rfl,h3l,(Z HS0).1,(Z HS0).2,by simp,Z HJL,Z HK0⟩
  case round =>
   obtain⟨k,s,cs,vq,vt,rfl,X,kt,xI,bz,hjl,hjj⟩:=hrel;obtain⟨qa,qc,rfl⟩:=fI hjl.j0.jg.row;obtain⟨ta,tc,rfl⟩:=fI hjl.j0.jg.told;have HJW:=Q hjl;have HKJ:=Q hjj;clear hjl hjj HJL HK0;go_wp2_with fail;refine(readG_any (.slice a l.length c) l k S s wr (zN (Z HR) (Z HJW).j0.bel ya) (Z HCP) (Z kZ) hl X (zY (Z HE) (Z HJW).j0.bel ya) kt xI (Y (Z HJW).sb 0 rfl)).mono ?_;rintro e w3 ⟨xN,bE,vZ⟩;cases qz:frA l k s with
   | none =>
    rw[qz] at vZ;obtain rfl:=vZ rfl;have HF:Hid (JJ=(cs,k,1)):=(Z HKJ).trans (jdK_none qz);have xG:Hid (JL0 w (w.heap.size+1+1) cs (.slice qa (runS cs).l.length qc) (.slice ta cs.length tc) (w3.alloc (J #[.int .u8 0,.slice none 0 0,H 0,H 0] 61))):=gY (Z HJW).j0 (xN.trans ((lT _ _).mono xN.size));unfold zFr;clear bE vZ qz xN HJW HKJ;obtain ⟨y0,y1,y2,y3,y4,y5,y6,y7,y8,y9,y10,y11,y12⟩:=q0_13 (Z xG).jg.box rfl;obtain ⟨z0,z1,z2,z3,z4,z5,z6,z7,z8,z9,jv,jL,jZ⟩:=q0_13 (Z xG).b2 rfl;obtain ⟨bi,bj,bm,bo,cV,cW,cX,cY,cZ,dc,kj,km,kn⟩:=r0_13 (Z xG).b2 rfl;obtain ⟨u0,u1,u2⟩:=q0_3 (Z xG).b3 rfl;obtain ⟨fu0,fu1,fu2⟩:=r0_3 (Z xG).b3 rfl;go_wp2_with fail;rw[set13,set3,Z HF];exact jt_ret (Z xG) (k,1) (b:=false) rfl rfl rfl
   | some x =>
    obtain⟨m,n,t,s2⟩:=x;rw[qz] at bE;obtain⟨pa,pl,pc,rfl,hrp,hcp⟩:=bE m n t s2 rfl;obtain⟨cD,hn2,hn3,hn4,hm,pw⟩:=frA_some qz;obtain⟨kf,xw⟩:=lY w3 [.int .u8 m,.slice pa pl pc,H n,H s2] 61;have xz:=xN.trans (kf.mono xN.size);have bL:=Q (jl_below (Z HJW) xz);have bU:Hid (∃xr,(w3.alloc (J #[.int .u8 m,.slice pa pl pc,H n,H s2] 61)).heap[w3.heap.size]? = some (.cells xr 61 (0,0))):=⟨_,heap_alloc_new _ _⟩;have HRP:=Q (zN hrp xz ya);have HCQ:=Q hcp;have hS3:S<w3.heap.size:=yJ (Z HJW).hl xN.size;have hF4:w3.heap.size<(w3.alloc (J #[.int .u8 m,.slice pa pl pc,H n,H s2] 61)).heap.size:=by simp
    have hJS:=(Z HJW).hS;have vL:Hid (0<=s2/\s2<65521):=by rw[pw];exact io _ _ kt xI
    have aj:=Q qz;clear bE vZ xN kf xz hrp hcp HJW qz pw;rcases hm with rfl|rfl
    ·have x0:=Y (Z xw) 0 rfl;have x1:=Y (Z xw) 1 rfl;have qm:=Q (run_gr cs bz)
     by_cases h200:cs.length=200
     ·have HF:Hid (JJ=(cs,k,18)):=(Z HKJ).trans (jdK_many (Z aj) h200);have xG:=Q (Z bL).j0;have uZ:((runS cs).t.gr==200)=true:=by rw[Z qm,h200];rfl
      clear h200 qm HKJ bL xw bU HRP;obtain ⟨y0,y1,y2,y3,y4,y5,y6,y7,y8,y9,y10,y11,y12⟩:=q0_13 (Z xG).jg.box rfl;obtain ⟨z0,z1,z2,z3,z4,z5,z6,z7,z8,z9,jv,jL,jZ⟩:=q0_13 (Z xG).b2 rfl;obtain ⟨bi,bj,bm,bo,cV,cW,cX,cY,cZ,dc,kj,km,kn⟩:=r0_13 (Z xG).b2 rfl;obtain ⟨u0,u1,u2⟩:=q0_3 (Z xG).b3 rfl;obtain ⟨fu0,fu1,fu2⟩:=r0_3 (Z xG).b3 rfl;go_wp2_with fail;rw[set13,set3,Z HF];exact jt_ret (Z xG) (k,18) (b:=false) rfl rfl rfl
     ·have uZ:((runS cs).t.gr==200)=false:=by rw[Z qm];simp;omega
      have y2:=Y (Z bL).j0.jg.box 2 rfl;have HAG:=Q (addGroup_any bI (.slice pa pl pc) _ _ (Z bL).j0.jg (by omega) (Z HRP) (Z HCQ) (fun x hx=>Z kZ x (List.mem_of_mem_drop (List.mem_of_mem_take hx))) (by rw[List.length_take];omega) (zY (Z HE) (Z bL).j0.bel ya));have pm:=Q (fun q r M=>(Z HKJ).trans (jdK_bad (q:=q) (r:=r) (Z aj) h200 M));have ua:=Q (fun c M=>(Z HKJ).trans (jdK_go (c:=c) (Z aj) h200 M));have uD:=Q (fun q r M=>grpJ_rule (p:=(l.drop n).take (t-n)) (cs:=cs) (q:=q) (r:=r) M);generalize grpJ ((l.drop n).take (t-n)) cs=GJ_ at HAG pm ua uD;clear qm HKJ HRP;go_wp2_with fail;generalize (w3.alloc (J #[.int .u8 71,.slice pa pl pc,H n,H s2] 61))=V at bL xw bU hF4 HAG x0 x1 y2 |-;generalize w3.heap.size=yl at xw bU hS3 hF4 x0 x1 |-;refine(Z HAG).mono ?_;rintro e w5 ⟨ut,kq⟩;clear x0 x1 y2 HAG;cases GJ_ with
      | inl y =>
       obtain⟨q,r⟩:=y;obtain⟨rfl,xX⟩:=ut q r rfl;have HF:Hid (JJ=(cs,n+q,r)):=Z pm q r rfl;have ks:(r != 0)=true:=by simpa using(Z uD q r rfl).1
       have xU:decide (r=0)=false:=by simpa using(Z uD q r rfl).1
       have hql:=(Z uD q r rfl).2;have xG:=Q (jl_below (Z bL) xX).j0;have uK:=Q (zf (Z xw) xX hF4);clear ut kq xX pm ua uD bL xw bU;obtain ⟨y0,y1,y2,y3,y4,y5,y6,y7,y8,y9,y10,y11,y12⟩:=q0_13 (Z xG).jg.box rfl;obtain ⟨z0,z1,z2,z3,z4,z5,z6,z7,z8,z9,jv,jL,jZ⟩:=q0_13 (Z xG).b2 rfl;obtain ⟨bi,bj,bm,bo,cV,cW,cX,cY,cZ,dc,kj,km,kn⟩:=r0_13 (Z xG).b2 rfl;obtain ⟨u0,u1,u2⟩:=q0_3 (Z xG).b3 rfl;obtain ⟨fu0,fu1,fu2⟩:=r0_3 (Z xG).b3 rfl;have x2:=Y (Z uK) 2 rfl
       have hw:IntKind.i64.wrap ((n:Int)+q)=n+q:=by
        have h5:=hql;rw[List.length_take] at h5;rw[IntKind.wrap_i64];omega
       have HJF:Hid (JL0 w (w.heap.size+1+1) cs (.slice qa (runS cs).l.length qc) (.slice ta cs.length tc) w5.drew):=gY (Z xG) (Below.refl _ _).drew;have HRD2:Hid ((false:Bool)=decide (r=0)):=xU.symm;have hFa:¬ (w.heap.size=yl):=by omega
       have hFb:¬ (yl=w.heap.size):=by omega
       clear xU uK xG hql;go_wp2_with fail
       go_region_with (fail)
       all_goals try go_wp2_with fail
       all_goals
        rw[set13,set3,Z HF,drew_sets,drew_sets];exact jt_ret (Z HJF) (n+q,r) (b:=false) (Z HRD2) rfl rfl
      | inr c =>
       obtain⟨rfl,ux,vU,hj5,hk5⟩:=kq c rfl;have HK6:Hid (JJ=jdK l (t+2) s2 (cs ++ [c])):=Z ua c rfl;have HJ5:=Q (jl_kp (Z bL) hk5 hj5);have uK:Hid (Bx w5 yl [.int .u8 71,.slice pa pl pc,H n,H s2]):=zQ (Z xw) (hk5.block yl hF4 (by omega) (zy (Z bL).j0.jg.told (Z bU) (by decide)));clear ut kq hj5 hk5 pm ua uD bL xw bU;have x3:=Y (Z uK) 3 rfl;have v0:=Y (Z HJ5).sb 0 rfl;have fv0:=zc (Z HJ5).sb 0 (by show 0<1;decide);have HJF:Hid (JL w (w.heap.size+1+1) S s2 (cs ++ [c]) ux vU (w5.drew.setCell (U S 0) (H s2))):=jl_sum (jl_below (Z HJ5) (Below.refl _ _).drew) s2;clear uK HJ5;go_wp2_with fail
       go_region_with (fail)
       all_goals try go_wp2_with fail
       all_goals
        go_roundw
        case rel=>exact⟨t+2,s2,cs ++ [c],ux,vU,by go_num,by omega,(Z vL).1,(Z vL).2,by simp;omega,Z HJF,Z HK6⟩
        case measure=>simp[intOf];omega
    ·have qX:=Q (fun W (hW:Below (w3.alloc (J #[.int .u8 69,.slice pa pl pc,H n,H s2] 61)).heap.size (w3.alloc (J #[.int .u8 69,.slice pa pl pc,H n,H s2] 61)) W)=>endVerdict_any l 69 pa pl pc n t s2 W (gY (Z bL).j0 hW).jg bz (zN (Z HRP) hW ya) (Z kZ) hl hn3);have HF:Hid (JJ=(cs,endJ l n t cs)):=(Z HKJ).trans (jdK_end (Z aj));generalize endJ l n t cs=EJ at qX HF;have x0:=Y (Z xw) 0 rfl;clear HKJ HRP HCQ aj vL bU;go_wp2_with fail;generalize (w3.alloc (J #[.int .u8 69,.slice pa pl pc,H n,H s2] 61))=V at bL xw hF4 qX x0 |-;generalize w3.heap.size=yl at xw hS3 hF4 x0 |-;have x1:=Y (Z xw) 1 rfl;have x2:=Y (Z xw) 2 rfl;have x3:=Y (Z xw) 3 rfl;have xG:=Q (Z bL).j0;have hD:Hid (yn V V.drew):=(Below.refl _ _).drew;have HJ5:Hid (∀W,yn V W->JL0 w (w.heap.size+1+1) cs (.slice qa (runS cs).l.length qc) (.slice ta cs.length tc) W):=fun W hW=>gY (Z xG) hW;obtain ⟨y0,y1,y2,y3,y4,y5,y6,y7,y8,y9,y10,y11,y12⟩:=q0_13 (Z xG).jg.box rfl;clear bL xw xG;unfold vdV at qX
     go_region_with (go_at_call 30;refine(Z qX _ (Z hD)).mono ?_;rintro e w6 ⟨rfl,vN⟩;have qj:=Z HJ5 w6 ((Z hD).trans vN);obtain ⟨g0,g1,g2,g3,g4,g5,g6,g7,g8,g9,oi,jU,qh⟩:=q0_13 qj.jg.box rfl;obtain ⟨z0,z1,z2,z3,z4,z5,z6,z7,z8,z9,jv,jL,jZ⟩:=q0_13 qj.b2 rfl;obtain ⟨bi,bj,bm,bo,cV,cW,cX,cY,cZ,dc,kj,km,kn⟩:=r0_13 qj.b2 rfl;obtain ⟨u0,u1,u2⟩:=q0_3 qj.b3 rfl;obtain ⟨fu0,fu1,fu2⟩:=r0_3 qj.b3 rfl;have HJ6:=Q qj;clear qj vN)
     all_goals try go_wp2_with fail
     all_goals
      rw[set13,set3,Z HF];exact jt_ret (Z HJ6) EJ rfl rfl rfl
 ·have HF:Hid (JJ=([],0,1)):=by show _ = _;rw[Z aZ,if_neg af]
  have e1:decide (l.take (0+1+1+1) = [84,74,49])=false:=by simpa using af
  rw[e1];clear af e1 aZ;have xG:Hid (JL0 w (w.heap.size+1+1) [] (.slice none (runS []).l.length 0) (.slice none ([]:List Cm).length 0) w1):=Z HJ0;clear HJ0;obtain ⟨y0,y1,y2,y3,y4,y5,y6,y7,y8,y9,y10,y11,y12⟩:=q0_13 (Z xG).jg.box rfl;obtain ⟨z0,z1,z2,z3,z4,z5,z6,z7,z8,z9,jv,jL,jZ⟩:=q0_13 (Z xG).b2 rfl;obtain ⟨bi,bj,bm,bo,cV,cW,cX,cY,cZ,dc,kj,km,kn⟩:=r0_13 (Z xG).b2 rfl;obtain ⟨u0,u1,u2⟩:=q0_3 (Z xG).b3 rfl;obtain ⟨fu0,fu1,fu2⟩:=r0_3 (Z xG).b3 rfl;go_wp2_with fail;rw[set13,set3,Z HF];exact jt_ret (Z xG) (0,1) (b:=false) (by decide) rfl rfl
end Go.Proofs.YtbghmldggahjiaaGreatDoor
