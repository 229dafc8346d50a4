/-.-/
import Derived.Test.YthhkapcbocgcoaaGreatDoorKj34
import Derived.Test.YthhkapcbocgcoaaGreatDoorKj37
set_option linter.unusedVariables false
set_option maxHeartbeats 6400000
set_option maxRecDepth 100000
namespace Go.Proofs.YthhkapcbocgcoaaGreatDoor
open Go.RowKit
theorem mbook_any {cl B:Nat}{la:Option Addr}{lc:Nat}{vd va:Value}{g:Gr}{t:Od}{kd n0:Int}{dy l0:List Od}(w:World)(h:MS cl B w (.slice la g.l.length lc) vd va g t kd n0 dy l0):Calls Tryz.prog 27 #[I cl 0] w fun e w'=>e=ym (.agg #[H g.nx,.slice la g.l.length lc])/\yn w w':=by
 have hO:=h.lt;obtain⟨xD,HX⟩:=mu w [H 0,.slice none 0 0] 27;have HM:=Z (zy h xD);have HB:=Z xD;clear h xD;go_enter Tryz.func27,Tryz.ntmps27;refine ms fun mR HK=>?_;go_wp2_with fail;refine U HK _ _ ?_;clear HK;generalize (w.alloc (mq #[H 0,.slice none 0 0] 27))=W1 at HX HM HB |-;have xR:Hid (Bx W1.drew w.heap.size [H 0,.slice none 0 0]):=zM (U HX);have vC:Hid (yn w W1.drew):=⟨(U HB).os,(U HB).tape,(U HB).output,(U HB).size,(U HB).block⟩;have c0:W1.drew.cell? (J cl 0)=some (H g.nx):=A (U HM).box 0 rfl;have c1:W1.drew.cell? (J cl 1)=some (.slice la g.l.length lc):=A (U HM).box 1 rfl;go_wp2_with fail;refine zD 9 (by kernel_rfl) (by kernel_rfl) ?_;simp only[yU,List.take_zero,yV,List.drop_zero]
 repeat still_step
 refine wpStill_nil ?_;clear c0 c1 HX HM HB;generalize W1.drew=h2 at xR vC |-;obtain ⟨z0,z1⟩:=q0_2 (U xR) rfl;obtain ⟨f0,f1⟩:=r0_2 (U xR) rfl;go_wp2_with fail
 try simp +zetaDelta only[Exit.noGoto_ret]
 change bodyPost _ _ _ _ _ (World.setCells h2 w.heap.size 0 [H g.nx,.slice la g.l.length lc]);have xp:Hid ((World.setCells h2 w.heap.size 0 [H g.nx,.slice la g.l.length lc]).rangeAt w.heap.size 0 [H g.nx,.slice la g.l.length lc]/\yn w (World.setCells h2 w.heap.size 0 [H g.nx,.slice la g.l.length lc])):=⟨(zq (U xR) (by simp only[List.length_cons,List.length_nil])).r,zh w.heap.size (by omega) [H g.nx,.slice la g.l.length lc] 0 h2 (U vC)⟩;generalize World.setCells h2 w.heap.size 0 [H g.nx,.slice la g.l.length lc]=WE at xp |-;have d0:WE.cell? (yq w 0)=some (H g.nx):=(U xp).1 0 _ rfl;have d1:WE.cell? (yq w 1)=some (.slice la g.l.length lc):=(U xp).1 1 _ rfl
 try simp only[Exit.inBlock,Exit.then]
 refine bodyPost_ret (by simp[results,Tryz.results27,go_sem,d0,d1];try rfl) rfl ?_;exact⟨rfl,(U xp).2⟩
theorem specApply_any (next:Int)(vb:Value)(l:List Od)(v:Value)(es:List Ev)(w:World)(hr:RdR Od.vs 6 w vb l)(hs:SlOk vb)(pC:∀o∈l,o.tag.size<=maxLen)(he:RdR Ev.vs 14 w v es)(hf:∀e∈es,e.fit) :
  Calls Tryz.prog 12 #[.agg #[H next,vb],v] w fun x w'=>ApE w (apN next l es) (apL next l es) (apR next l es) (apC next l es) x w':=by
 have hsf:=sfl;have bH:=Z (fun W (h:yn w W)=>specBookOK_any next vb l W (zi hr h ya) pC);have HAL:=Z (fun W (h:yn w W)=>l05Events_any v es W (zi he h ya) hf);have HGB:Hid (fltC next l es=0->∀W,yn w W->Calls Tryz.prog 25 #[.agg #[H next,vb],v] W fun x w'=>RepE W vb next l (runG (gr0 next l) es) x w'):=fun h0 W h=>l05Replay_any next vb l v es W (zi hr h ya) hs (okS_gi (flt_ok h0).2.1) (zi he h ya) (flt_ok h0).2.2 (fun e he=>(hf e he).g);have oe:Hid (∀cl B W vl vd t kd dy,MS cl B W vl vd vb (runG (gr0 next l) es).1 t kd next dy l->GI (runG (gr0 next l) es).1->MR (runG (gr0 next l) es).1 t kd dy->Calls Tryz.prog 26 #[I cl 0] W fun x w'=>x=ym (duV (dueG (runG (gr0 next l) es).1))/\yn W w'):=fun cl B W vl vd t kd dy D Y h3=>mdue_any W D Y h3;have HFC:Hid (fltC next l es=if 4096<es.length then 2 else if okS next l=false\/es.all okE=false then 1 else 0):=rfl
 have pu:Hid (endR (runG (gr0 next l) es).1=if (runG (gr0 next l) es).1.bg=0\/(dueG (runG (gr0 next l) es).1).kind≠0 then 15 else 0):=rfl
 have hfd:=fieldDu;have HR:Hid (apR next l es=if fltC next l es≠0 then 0 else if (runG (gr0 next l) es).2=0 then endR (runG (gr0 next l) es).1 else(runG (gr0 next l) es).2):=rfl
 have HC:Hid (apC next l es=if fltC next l es≠0 then fltC next l es else if apR next l es≠0 then 8 else 0):=rfl
 have HN:Hid (apN next l es=if fltC next l es=0/\apR next l es=0 then(runG (gr0 next l) es).1.nx else 0):=rfl
 have HL:Hid (apL next l es=if fltC next l es=0/\apR next l es=0 then(runG (gr0 next l) es).1.l else[]):=rfl
 generalize apN next l es=an at HN |-;generalize apL next l es=al at HL |-;generalize apC next l es=ac at HC |-;generalize apR next l es=ar at HR HC HN HL |-;generalize fltC next l es=fc at HFC HGB HR HC HN HL;generalize okS next l=bk at bH HFC;generalize es.all okE=ao at HAL HFC;generalize endR (runG (gr0 next l) es).1=er at pu HR;generalize dueG (runG (gr0 next l) es).1=dg at oe pu;generalize runG (gr0 next l) es=cs at HGB oe pu HR HN HL;obtain⟨g1,ru⟩:=cs;simp only at oe pu HR HN HL;have H1:Hid (fc≠0->an=0/\al = []/\ar=0/\ac=fc):=fun h=>⟨by rw[U HN,if_neg (fun Y=>h Y.1)],by rw[U HL,if_neg (fun Y=>h Y.1)],by rw[U HR,if_pos h],by rw[U HC,if_pos h]⟩
 have H2:Hid (∀q,fc=0->(if ru=0 then er else ru)=q->q≠0->an=0/\al = []/\ar=q/\ac=8):=fun q h hq Y=>by
  have ha:ar=q:=by rw[U HR,if_neg (not_not_intro h),hq]
  exact⟨by rw[U HN,if_neg (fun h3=>Y (ha ▸ h3.2))],by rw[U HL,if_neg (fun h3=>Y (ha ▸ h3.2))],ha,by rw[U HC,if_neg (not_not_intro h),if_pos (ha ▸ Y)]⟩
 have H3:Hid (fc=0->ru=0->er=0->an=g1.nx/\al=g1.l/\ar=0/\ac=0):=fun h Y h3=>by
  have ha:ar=0:=by rw[U HR,if_neg (not_not_intro h),if_pos Y,h3]
  exact⟨by rw[U HN,if_pos ⟨h,ha⟩],by rw[U HL,if_pos ⟨h,ha⟩],ha,by rw[U HC,if_neg (not_not_intro h),if_neg (not_not_intro ha)]⟩
 unfold ApE;obtain⟨hX,hY,hB,hZ⟩:=wb2_box w [H next,vb] [H 0,.slice none 0 0] 27 27;have HX:=Z hX;have HD:=Z hY;have HB:=Z hB;generalize hW:wb2 w [H next,vb] [H 0,.slice none 0 0] 27 27 = W1 at HX HD HB hZ;have HW:=Z hW;obtain⟨a,cap,rfl,xC,hc⟩:=he;clear hr hs pC hf hc hX hY hB hW HR HC HN HL;go_enter Tryz.func12,Tryz.ntmps12;refine ms fun mR HK=>?_;go_wp2_with fail;refine U HK _ _ ?_;clear HK;change Code.wp _ _ _ _ (wb2 w [H next,vb] [H 0,.slice none 0 0] 27 27);rw[U HW];clear HW;obtain ⟨x0,x1⟩:=q0_2 (U HX) rfl
 by_cases hlg:4096<es.length
 ·have hlg':(4096:Int)<es.length:=by omega
  have hf2:=U HFC;rw[if_pos hlg] at hf2;have HQ:=Z (U H1 (by omega));rw[hf2] at HQ;clear hf2;obtain ⟨z0,z1⟩:=q0_2 (U HD) rfl;obtain ⟨f0,f1⟩:=r0_2 (U HD) rfl;go_wp2_with fail
  try simp +zetaDelta only[Exit.noGoto_ret]
  change bodyPost _ _ _ _ _ (World.setCells W1 (w.heap.size+1) 0 [H 0,.slice none 0 0]);have xp:Hid ((World.setCells W1 (w.heap.size+1) 0 [H 0,.slice none 0 0]).rangeAt (w.heap.size+1) 0 [H 0,.slice none 0 0]/\yn w (World.setCells W1 (w.heap.size+1) 0 [H 0,.slice none 0 0])/\ORow (World.setCells W1 (w.heap.size+1) 0 [H 0,.slice none 0 0]) w.heap.size (.slice none 0 0) []):=⟨(zq (U HD) (by simp only[List.length_cons,List.length_nil])).r,zh (w.heap.size+1) (by omega) [H 0,.slice none 0 0] 0 W1 (U HB),World.ownsRow_nil _ _ _ _⟩;generalize World.setCells W1 (w.heap.size+1) 0 [H 0,.slice none 0 0]=WE at xp |-;have d0:WE.cell? (J (w.heap.size+1) 0)=some (H 0):=(U xp).1 0 _ rfl;have d1:WE.cell? (J (w.heap.size+1) 1)=some (.slice none 0 0):=(U xp).1 1 _ rfl
  try simp only[Exit.inBlock,Exit.then]
  refine bodyPost_ret (by simp[results,Tryz.results12,go_sem,d0,d1];try rfl) rfl ?_;refine⟨_,by rw[(U HQ).1,(U HQ).2.2.1,(U HQ).2.2.2];try rfl,?_,(U xp).2.1⟩;rw[(U HQ).2.1];exact(U xp).2.2
 have hlg':¬ ((4096:Int)<es.length):=by omega
 have ql:=Z (U HFC);rw[if_neg hlg] at ql;have bZ:Hid (fc=1->an=0/\al = []/\ar=0/\ac=1):=fun h=>h ▸ U H1 (by omega);clear HFC hlg;go_wp2_with fail;refine(U bH W1 (U HB)).mono ?_;rintro e w2 ⟨rfl,E⟩;have HB:=Z (mr (U HB) E);have HX:=Z (zg (U HX) E (by omega));have HD:=Z (zg (U HD) E hZ);have hZ:w.heap.size+1<w2.heap.size:=by have:=E.size;omega
 clear E x0 x1 bH;cases bk
 ·have HQ:=Z (U bZ (by rw[U ql,if_pos (.inl rfl)]));obtain ⟨z0,z1⟩:=q0_2 (U HD) rfl;obtain ⟨f0,f1⟩:=r0_2 (U HD) rfl;go_wp2_with fail
  try simp +zetaDelta only[Exit.noGoto_ret]
  change bodyPost _ _ _ _ _ (World.setCells w2 (w.heap.size+1) 0 [H 0,.slice none 0 0]);have xp:Hid ((World.setCells w2 (w.heap.size+1) 0 [H 0,.slice none 0 0]).rangeAt (w.heap.size+1) 0 [H 0,.slice none 0 0]/\yn w (World.setCells w2 (w.heap.size+1) 0 [H 0,.slice none 0 0])/\ORow (World.setCells w2 (w.heap.size+1) 0 [H 0,.slice none 0 0]) w.heap.size (.slice none 0 0) []):=⟨(zq (U HD) (by simp only[List.length_cons,List.length_nil])).r,zh (w.heap.size+1) (by omega) [H 0,.slice none 0 0] 0 w2 (U HB),World.ownsRow_nil _ _ _ _⟩;generalize World.setCells w2 (w.heap.size+1) 0 [H 0,.slice none 0 0]=WE at xp |-;have d0:WE.cell? (J (w.heap.size+1) 0)=some (H 0):=(U xp).1 0 _ rfl;have d1:WE.cell? (J (w.heap.size+1) 1)=some (.slice none 0 0):=(U xp).1 1 _ rfl
  try simp only[Exit.inBlock,Exit.then]
  refine bodyPost_ret (by simp[results,Tryz.results12,go_sem,d0,d1];try rfl) rfl ?_;refine⟨_,by rw[(U HQ).1,(U HQ).2.2.1,(U HQ).2.2.2];try rfl,?_,(U xp).2.1⟩;rw[(U HQ).2.1];exact(U xp).2.2
 go_wp2_with fail;refine(U HAL w2 (U HB)).mono ?_;rintro e w3 ⟨rfl,E⟩;have HB:=Z (mr (U HB) E);have HX:=Z (zg (U HX) E (by omega));have HD:=Z (zg (U HD) E hZ);have hZ:w.heap.size+1<w3.heap.size:=by have:=E.size;omega
 clear E HAL;cases ao
 ·have HQ:=Z (U bZ (by rw[U ql,if_pos (.inr rfl)]));obtain ⟨z0,z1⟩:=q0_2 (U HD) rfl;obtain ⟨f0,f1⟩:=r0_2 (U HD) rfl;go_wp2_with fail
  try simp +zetaDelta only[Exit.noGoto_ret]
  change bodyPost _ _ _ _ _ (World.setCells w3 (w.heap.size+1) 0 [H 0,.slice none 0 0]);have xp:Hid ((World.setCells w3 (w.heap.size+1) 0 [H 0,.slice none 0 0]).rangeAt (w.heap.size+1) 0 [H 0,.slice none 0 0]/\yn w (World.setCells w3 (w.heap.size+1) 0 [H 0,.slice none 0 0])/\ORow (World.setCells w3 (w.heap.size+1) 0 [H 0,.slice none 0 0]) w.heap.size (.slice none 0 0) []):=⟨(zq (U HD) (by simp only[List.length_cons,List.length_nil])).r,zh (w.heap.size+1) (by omega) [H 0,.slice none 0 0] 0 w3 (U HB),World.ownsRow_nil _ _ _ _⟩;generalize World.setCells w3 (w.heap.size+1) 0 [H 0,.slice none 0 0]=WE at xp |-;have d0:WE.cell? (J (w.heap.size+1) 0)=some (H 0):=(U xp).1 0 _ rfl;have d1:WE.cell? (J (w.heap.size+1) 1)=some (.slice none 0 0):=(U xp).1 1 _ rfl
  try simp only[Exit.inBlock,Exit.then]
  refine bodyPost_ret (by simp[results,Tryz.results12,go_sem,d0,d1];try rfl) rfl ?_;refine⟨_,by rw[(U HQ).1,(U HQ).2.2.1,(U HQ).2.2.2];try rfl,?_,(U xp).2.1⟩;rw[(U HQ).2.1];exact(U xp).2.2
 have HFZ:Hid (fc=0):=by show _ = _;rw[U ql,if_neg (by simp)]
 clear ql bZ;obtain ⟨x0,x1⟩:=q0_2 (U HX) rfl;have hBW:w.heap.size+1<w3.heap.size:=hZ;go_wp2_with fail;refine(U HGB (U HFZ) w3 (U HB)).mono ?_;rintro e w4 ⟨cl,j,rfl,E,pF⟩;have HB:=Z (mr (U HB) E);have HX:=Z (zg (U HX) E (by omega));have HD:=Z (zg (U HD) E hZ);have hZ:w.heap.size+1<w4.heap.size:=by have:=E.size;omega
 have py:=Z pF;clear E pF x0 x1;simp only at py |-
 by_cases hru:ru=0
 case neg =>
  have b1:(ru==0)=false:=by simpa using hru
  have b2:(ru != 0)=true:=by simpa using hru
  have HQ:=Z (U H2 ru (U HFZ) (if_neg hru) hru);clear hru;obtain ⟨z0,z1⟩:=q0_2 (U HD) rfl;obtain ⟨f0,f1⟩:=r0_2 (U HD) rfl;go_wp2_with fail
  try simp +zetaDelta only[Exit.noGoto_ret]
  change bodyPost _ _ _ _ _ (World.setCells w4 (w.heap.size+1) 0 [H 0,.slice none 0 0]);have xp:Hid ((World.setCells w4 (w.heap.size+1) 0 [H 0,.slice none 0 0]).rangeAt (w.heap.size+1) 0 [H 0,.slice none 0 0]/\yn w (World.setCells w4 (w.heap.size+1) 0 [H 0,.slice none 0 0])/\ORow (World.setCells w4 (w.heap.size+1) 0 [H 0,.slice none 0 0]) w.heap.size (.slice none 0 0) []):=⟨(zq (U HD) (by simp only[List.length_cons,List.length_nil])).r,zh (w.heap.size+1) (by omega) [H 0,.slice none 0 0] 0 w4 (U HB),World.ownsRow_nil _ _ _ _⟩;generalize World.setCells w4 (w.heap.size+1) 0 [H 0,.slice none 0 0]=WE at xp |-;have d0:WE.cell? (J (w.heap.size+1) 0)=some (H 0):=(U xp).1 0 _ rfl;have d1:WE.cell? (J (w.heap.size+1) 1)=some (.slice none 0 0):=(U xp).1 1 _ rfl
  try simp only[Exit.inBlock,Exit.then]
  refine bodyPost_ret (by simp[results,Tryz.results12,go_sem,d0,d1];try rfl) rfl ?_;refine⟨_,by rw[(U HQ).1,(U HQ).2.2.1,(U HQ).2.2.2];try rfl,?_,(U xp).2.1⟩;rw[(U HQ).2.1];exact(U xp).2.2
 have b1:(ru==0)=true:=by simpa using hru
 have b3:(ru != 0)=false:=by simpa using hru
 obtain⟨vl,vd,t,kd,dy,hms,hgi,hmr⟩:=U py hru;have jr:=Z (U oe cl _ w4 vl vd t kd dy hms hgi hmr);obtain⟨qa,qc,rfl⟩:=gf (zI hms.row (yO hgi.len (by decide)));have oW:=Z hms;have HRZ:=Z hru;clear hru hms hgi hmr py oe;have c9:=A (U oW).box 9 rfl
 by_cases hbg:g1.bg=0
 case pos =>
  have kj:=U pu;rw[if_pos (.inl hbg)] at kj;have HQ:=Z (U H2 15 (U HFZ) ((if_pos (U HRZ)).trans kj) (by decide));have b4:(g1.bg != 0)=false:=by simpa using hbg
  rw[b4] at c9;clear kj hbg b4;obtain ⟨z0,z1⟩:=q0_2 (U HD) rfl;obtain ⟨f0,f1⟩:=r0_2 (U HD) rfl;go_wp2_with fail
  try simp +zetaDelta only[Exit.noGoto_ret]
  change bodyPost _ _ _ _ _ (World.setCells w4 (w.heap.size+1) 0 [H 0,.slice none 0 0]);have xp:Hid ((World.setCells w4 (w.heap.size+1) 0 [H 0,.slice none 0 0]).rangeAt (w.heap.size+1) 0 [H 0,.slice none 0 0]/\yn w (World.setCells w4 (w.heap.size+1) 0 [H 0,.slice none 0 0])/\ORow (World.setCells w4 (w.heap.size+1) 0 [H 0,.slice none 0 0]) w.heap.size (.slice none 0 0) []):=⟨(zq (U HD) (by simp only[List.length_cons,List.length_nil])).r,zh (w.heap.size+1) (by omega) [H 0,.slice none 0 0] 0 w4 (U HB),World.ownsRow_nil _ _ _ _⟩;generalize World.setCells w4 (w.heap.size+1) 0 [H 0,.slice none 0 0]=WE at xp |-;have d0:WE.cell? (J (w.heap.size+1) 0)=some (H 0):=(U xp).1 0 _ rfl;have d1:WE.cell? (J (w.heap.size+1) 1)=some (.slice none 0 0):=(U xp).1 1 _ rfl
  try simp only[Exit.inBlock,Exit.then]
  refine bodyPost_ret (by simp[results,Tryz.results12,go_sem,d0,d1];try rfl) rfl ?_;refine⟨_,by rw[(U HQ).1,(U HQ).2.2.1,(U HQ).2.2.2];try rfl,?_,(U xp).2.1⟩;rw[(U HQ).2.1];exact(U xp).2.2
 have b4:(g1.bg != 0)=true:=by simpa using hbg
 rw[b4] at c9;obtain⟨dk,di,dt,dq,dp⟩:=dg;unfold duV at jr;simp only at jr pu;go_wp2_with fail;refine(U jr).mono ?_;rintro e w5 ⟨rfl,E⟩;have oW:=Z (zy (U oW) E);have HB:=Z (mr (U HB) E);have HX:=Z (zg (U HX) E (by omega));have HD:=Z (zg (U HD) E hZ);have hZ:w.heap.size+1<w5.heap.size:=by have:=E.size;omega
 clear E b1 c9 b4
 by_cases hdk:dk=0
 case neg =>
  have b4:(dk != 0)=true:=by simpa using hdk
  have kj:=U pu;rw[if_pos (.inr hdk)] at kj;have HQ:=Z (U H2 15 (U HFZ) ((if_pos (U HRZ)).trans kj) (by decide));clear kj hdk hbg;obtain ⟨z0,z1⟩:=q0_2 (U HD) rfl;obtain ⟨f0,f1⟩:=r0_2 (U HD) rfl;go_wp2_with fail
  try simp +zetaDelta only[Exit.noGoto_ret]
  change bodyPost _ _ _ _ _ (World.setCells w5 (w.heap.size+1) 0 [H 0,.slice none 0 0]);have xp:Hid ((World.setCells w5 (w.heap.size+1) 0 [H 0,.slice none 0 0]).rangeAt (w.heap.size+1) 0 [H 0,.slice none 0 0]/\yn w (World.setCells w5 (w.heap.size+1) 0 [H 0,.slice none 0 0])/\ORow (World.setCells w5 (w.heap.size+1) 0 [H 0,.slice none 0 0]) w.heap.size (.slice none 0 0) []):=⟨(zq (U HD) (by simp only[List.length_cons,List.length_nil])).r,zh (w.heap.size+1) (by omega) [H 0,.slice none 0 0] 0 w5 (U HB),World.ownsRow_nil _ _ _ _⟩;generalize World.setCells w5 (w.heap.size+1) 0 [H 0,.slice none 0 0]=WE at xp |-;have d0:WE.cell? (J (w.heap.size+1) 0)=some (H 0):=(U xp).1 0 _ rfl;have d1:WE.cell? (J (w.heap.size+1) 1)=some (.slice none 0 0):=(U xp).1 1 _ rfl
  try simp only[Exit.inBlock,Exit.then]
  refine bodyPost_ret (by simp[results,Tryz.results12,go_sem,d0,d1];try rfl) rfl ?_;refine⟨_,by rw[(U HQ).1,(U HQ).2.2.1,(U HQ).2.2.2];try rfl,?_,(U xp).2.1⟩;rw[(U HQ).2.1];exact(U xp).2.2
 have b4:(dk != 0)=false:=by simpa using hdk
 have kj:=U pu;rw[if_neg (fun h=>h.elim hbg (fun h=>h hdk))] at kj;have HQ:=Z (U H3 (U HFZ) (U HRZ) kj);clear kj hdk hbg;go_wp2_with fail;refine(mbook_any w5 (U oW)).mono ?_;rintro e w6 ⟨rfl,E⟩;have oW:=Z (zy (U oW) E);have HB:=Z (mr (U HB) E);have HX:=Z (zg (U HX) E (by omega));have HD:=Z (zg (U HD) E hZ);have hZ:w.heap.size+1<w6.heap.size:=by have:=E.size;omega
 clear E;obtain ⟨z0,z1⟩:=q0_2 (U HD) rfl;obtain ⟨f0,f1⟩:=r0_2 (U HD) rfl;go_wp2_with fail
 try simp +zetaDelta only[Exit.noGoto_ret]
 change bodyPost _ _ _ _ _ (World.setCells w6 (w.heap.size+1) 0 [H g1.nx,.slice qa g1.l.length qc]);have xp:Hid ((World.setCells w6 (w.heap.size+1) 0 [H g1.nx,.slice qa g1.l.length qc]).rangeAt (w.heap.size+1) 0 [H g1.nx,.slice qa g1.l.length qc]/\yn w (World.setCells w6 (w.heap.size+1) 0 [H g1.nx,.slice qa g1.l.length qc])/\ORow (World.setCells w6 (w.heap.size+1) 0 [H g1.nx,.slice qa g1.l.length qc]) w.heap.size (.slice qa g1.l.length qc) g1.l):=⟨(zq (U HD) (by simp only[List.length_cons,List.length_nil])).r,zh (w.heap.size+1) (by omega) [H g1.nx,.slice qa g1.l.length qc] 0 w6 (U HB),gQ (fun e=>by have:=((U oW).row.lt _ e.symm).1;omega) [H g1.nx,.slice qa g1.l.length qc] 0 w6 (zU (U oW).row (by omega))⟩;generalize World.setCells w6 (w.heap.size+1) 0 [H g1.nx,.slice qa g1.l.length qc]=WE at xp |-;have d0:WE.cell? (J (w.heap.size+1) 0)=some (H g1.nx):=(U xp).1 0 _ rfl;have d1:WE.cell? (J (w.heap.size+1) 1)=some (.slice qa g1.l.length qc):=(U xp).1 1 _ rfl
 try simp only[Exit.inBlock,Exit.then]
 refine bodyPost_ret (by simp[results,Tryz.results12,go_sem,d0,d1];try rfl) rfl ?_;refine⟨_,by rw[(U HQ).1,(U HQ).2.2.1,(U HQ).2.2.2];try rfl,?_,(U xp).2.1⟩;rw[(U HQ).2.1];exact(U xp).2.2
end Go.Proofs.YthhkapcbocgcoaaGreatDoor
