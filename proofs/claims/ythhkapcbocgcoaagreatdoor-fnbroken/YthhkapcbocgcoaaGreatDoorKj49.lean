/-.-/
import Derived.Test.YthhkapcbocgcoaaGreatDoorKj38
import Derived.Test.YthhkapcbocgcoaaGreatDoorKj48
set_option linter.unusedVariables false
set_option maxHeartbeats 6400000
set_option maxRecDepth 100000
namespace Go.Proofs.YthhkapcbocgcoaaGreatDoor
open Go.RowKit
theorem rd_take {W:World}{a:Option Addr}{cap:Nat}{es:List Ev}(h:RdR Ev.vs 14 W (.slice a es.length cap) es){k:Nat}(hk:k<=es.length):RdR Ev.vs 14 W (.slice a k cap) (es.take k):=by
 obtain⟨a1,c1,e1,hl,D⟩:=h;simp only[Value.slice.injEq,true_and] at e1;obtain⟨rfl,rfl⟩:=e1;have ht:(es.take k).length=k:=by rw[List.length_take];omega
 refine⟨a,cap,by rw[ht],by omega,fun xr=>?_⟩;obtain⟨b,off,Y,h3,h4⟩:=D (by intro h0;rw[h0] at xr;simp at xr);refine⟨b,off,Y,h3,fun i c hc=>h4 i c ?_⟩;rw[List.getElem?_take] at hc;split at hc
 ·exact hc
 ·cases hc
theorem brkLaw (v:Value)(l:List Int)(w:World)(hr:Rd w v l)(E:Bts l)(hl:l.length<=1048576)(hE:ErrT w) :
  Calls Tryz.prog 4 #[v] w fun e w'=>e=ym (.bool true)/\yn w w':=by
 have HR:=Z hr;have HBT:=Z E;have HE:=Z hE;obtain⟨a,cap,rfl,_,_⟩:=hr;have hl':¬ ((1048576:Int)<l.length):=by omega
 clear E hE;go_enter Tryz.func4,Tryz.ntmps4;refine ms fun mR xE=>?_;go_wp2_with fail;refine U xE _ _ ?_;clear xE;refine ms fun mR xE=>?_;go_wp2_with fail;refine U xE _ _ ?_;clear xE;refine ms fun mR xE=>?_;go_wp2_with fail;refine(groupOf_any _ l w (U HR) (U HBT)).mono ?_;rintro x W1 ⟨n,vq,vg,q,es,rfl,hrq,hsl,vD,htg,po,hft,xC,⟨ga,gc,rfl,hcp⟩,uw⟩;obtain⟨qa,qc,rfl,-⟩:=id hrq;have jg:=Z hsl;have pz:=Z htg;have HFT:=Z hft;have uf:=Z uw;have HRQ:=Z hrq;have dx:=Z po;clear hrq hsl vD htg po hft uw HR HBT;have HAL:Hid (yn W1 (W1.alloc (mq #[H n,.slice qa q.length qc] 27))):=mn _ _;have jH:Hid (Bx (W1.alloc (mq #[H n,.slice qa q.length qc] 27)) W1.heap.size [H n,.slice qa q.length qc]):=zn W1 [H n,.slice qa q.length qc] 27;have xv:=Z ((U uf).trans ((U HAL).mono (U uf).size));have HRQ2:=Z (zi (U HRQ) (U HAL) ya);have HRG2:=Z (zi (U dx) (U HAL) ya);have xL:W1.heap.size<(W1.alloc (mq #[H n,.slice qa q.length qc] 27)).heap.size:=by simp
 clear uf HRQ dx HAL;go_wp2_with fail;refine U xE _ _ ?_;clear xE;generalize (W1.alloc (mq #[H n,.slice qa q.length qc] 27))=W2 at jH xv HRQ2 HRG2 xL |-;generalize W1.heap.size=b3 at jH xL |-;have HAI:=Z (fun V (h:yn W2 V)=>implApply_any n _ q _ es V (zi (U HRQ2) h ya) (U jg) (U pz) (zi (U HRG2) h ya) (U HFT) (fK (U HE) (mr (U xv) h) ya));have HAS:=Z (fun V (h:yn W2 V)=>specApply_any n _ q _ es V (zi (U HRQ2) h ya) (U jg) (U pz) (zi (U HRG2) h ya) (U HFT));obtain ⟨k0,k1⟩:=q0_2 (U jH) rfl;refine ms fun mR xE=>?_;go_wp2_with fail;refine(U HAI W2 (Below.refl _ _)).mono ?_;rintro x W3 ⟨va,rfl,hoa,E⟩;obtain⟨na,nc,rfl⟩:=row_any hoa;have xI:=Z E;clear hoa E k0 k1;have xF:Hid (yn W2 (W3.alloc (mq #[H (apN n q es),.slice na (apL n q es).length nc] 27))):=(U xI).alloc (U xI).size _;go_wp2_with fail;refine U xE _ _ ?_;clear xE xI;generalize (W3.alloc (mq #[H (apN n q es),.slice na (apL n q es).length nc] 27))=W4 at xF |-;obtain ⟨k0,k1⟩:=q0_2 (zg (U jH) (U xF) xL) rfl;refine ms fun mR xE=>?_;go_wp2_with fail;refine(U HAS W4 (U xF)).mono ?_;rintro x W5 ⟨va,rfl,hoa,E⟩;obtain⟨ma,mc,rfl⟩:=row_any hoa;have ui:=Z (mr (U xF) E);clear hoa E k0 k1;have vZ:Hid (yn W2 (W5.alloc (mq #[H (apN n q es),.slice ma (apL n q es).length mc] 27))):=(U ui).alloc (U ui).size _;go_wp2_with fail;refine U xE _ _ ?_;clear xE ui xF;generalize (W5.alloc (mq #[H (apN n q es),.slice ma (apL n q es).length mc] 27))=W6 at vZ |-
 by_cases cO:fltC n q es=0
 ·have qU:apC n q es≠1:=by
   intro D;rw[apC,if_neg (fun h=>h cO)] at D;split at D <;> omega
  have hcb:(apC n q es==1)=false:=by simpa using qU
  have HFL:=Z cO;have vv:=Z (brk_end cO);have qh:Hid (∀(k:Nat) (e:Ev),es[k]? = some e->(runG (gr0 n q) (es.take k)).2=0->brkC n q (es.take k) e=0/\(brkR n q (es.take k) e=0->(runG (gr0 n q) (es.take (k+1))).2=0)/\(brkR n q (es.take k) e≠0->apR n q es=brkR n q (es.take k) e/\apC n q es=8)):=Z (fun k e hk hr=>brk_at cO hk hr);generalize apR n q es=xi at vv qh hcb |-;generalize apC n q es=C at vv qh hcb qU |-;clear cO HAI HAS;refine ms fun mR xE=>?_;go_wp2_with fail;refine U xE _ _ ?_;clear xE;refine ms fun mR xE=>?_;go_wp2_with fail;refine U xE _ _ ?_;clear xE;refine ms fun mR xE=>?_;clear hcb;go_wp2_with fail;go_loopw [11,12] (fun fv kv wr=>∃(k:Nat),k<=es.length/\kv=H k/\fv=H 0/\Hid ((runG (gr0 n q) (es.take k)).2=0)/\yn W2 wr) (fun _ kv _=>es.length-(intOf kv).toNat)
  case atStart=>exact⟨0,Nat.zero_le _,rfl,rfl,by simp[Hid,runG],U vZ⟩
  case round =>
   obtain⟨k,hk,rfl,rfl,HRK,xo⟩:=hrel;have qP:=Z xo;clear xo vZ
   by_cases xM:k<es.length
   ·obtain⟨e,jo⟩:∃e,es[k]? = some e:=⟨_,yI xM⟩
    obtain⟨gb,go,rfl,uR⟩:∃gb go,ga=some (J gb go)/\∀V,yn W2 V->V.rangeAt gb (go+k*14) e.vs:=by
     obtain⟨a1,c1,e1,-,D⟩:=U HRG2;simp only[Value.slice.injEq,true_and] at e1;obtain⟨rfl,rfl⟩:=e1;obtain⟨b,off,Y,h3,h4⟩:=D (by intro h0;rw[h0] at xM;simp at xM);exact⟨b,off,Y,fun V hV=>zc (h4 k e jo) hV h3⟩
    have uL:(k:Int)<es.length:=by omega
    have vf:k<=gc:=by omega
    have hkc':(k:Int)<=gc:=by omega
    have qZ:Hid (∀V,yn wr V->V.cell? (J b3 0)=some (H n)/\V.cell? (J b3 1)=some (.slice qa q.length qc)/\V.cell? (J gb (go+k*14))=some (H e.kind)/\V.cell? (J gb (go+k*14+1))=some (H e.cmd.k)/\V.cell? (J gb (go+k*14+2))=some (H e.cmd.s)/\V.cell? (J gb (go+k*14+3))=some (H e.cmd.t)/\V.cell? (J gb (go+k*14+4))=some (H e.cmd.l)/\V.cell? (J gb (go+k*14+5))=some (H e.cmd.q)/\V.cell? (J gb (go+k*14+6))=some (H e.cmd.i)/\V.cell? (J gb (go+k*14+7))=some (yj e.cmd.p)/\V.cell? (J gb (go+k*14+8))=some (yk e.cmd.g)/\V.cell? (J gb (go+k*14+9))=some (H e.id)/\V.cell? (J gb (go+k*14+10))=some (H e.other)/\V.cell? (J gb (go+k*14+11))=some (H e.qty)/\V.cell? (J gb (go+k*14+12))=some (H e.price)/\V.cell? (J gb (go+k*14+13))=some (H e.reason)):=Z (fun V hV=>by
     have kz:=(U qP).trans (hV.mono (U qP).size);have jM:=zg (U jH) kz xL;obtain⟨p0,p1,p2,p3,p4,p5,p6,p7,p8,p9,p10,p11,p12,p13⟩:=ev_cells (uR V kz);exact⟨A jM 0 rfl,A jM 1 rfl,p0,p1,p2,p3,p4,p5,p6,p7,p8,p9,p10,p11,p12,p13⟩)
    have HBR:Hid (∀V,yn wr V->Calls Tryz.prog 7 #[.agg #[H n,.slice qa q.length qc],.slice (some (J gb go)) k gc,evV e] V fun x w'=>x=ym (.tuple #[H (brkR n q (es.take k) e),H (brkC n q (es.take k) e)])/\yn V w'):=Z (fun V hV=>by
     have kz:=(U qP).trans (hV.mono (U qP).size);exact implBroken_any n _ q _ (es.take k) e V (zi (U HRQ2) kz ya) (U jg) (U pz) (rd_take (zi (U HRG2) kz ya) hk) (fun x hx=>U HFT x (List.mem_of_mem_take hx)) (U HFT e (yP jo)) (fK (U HE) (mr (U xv) kz) ya))
    unfold evV at HBR;have xR:Hid (yn wr wr.drew):=(Below.refl _ _).drew;obtain⟨ha1,ha2,ha3⟩:=U qh k e jo (U HRK);rw[ha1] at HBR;have HA2:=Z ha2;have HA3:=Z ha3;generalize brkR n q (es.take k) e=r at HBR HA2 HA3;clear ha1 ha2 ha3 uR jo;go_wp2_with fail
    go_region_held3 (fun w'=>w'.cell? (J b3 0)=some (H n)/\w'.cell? (J b3 1)=some (.slice qa q.length qc)/\w'.cell? (J gb (go+k*14))=some (H e.kind)/\w'.cell? (J gb (go+k*14+1))=some (H e.cmd.k)/\w'.cell? (J gb (go+k*14+2))=some (H e.cmd.s)/\w'.cell? (J gb (go+k*14+3))=some (H e.cmd.t)/\w'.cell? (J gb (go+k*14+4))=some (H e.cmd.l)/\w'.cell? (J gb (go+k*14+5))=some (H e.cmd.q)/\w'.cell? (J gb (go+k*14+6))=some (H e.cmd.i)/\w'.cell? (J gb (go+k*14+7))=some (yj e.cmd.p)/\w'.cell? (J gb (go+k*14+8))=some (yk e.cmd.g)/\w'.cell? (J gb (go+k*14+9))=some (H e.id)/\w'.cell? (J gb (go+k*14+10))=some (H e.other)/\w'.cell? (J gb (go+k*14+11))=some (H e.qty)/\w'.cell? (J gb (go+k*14+12))=some (H e.price)/\w'.cell? (J gb (go+k*14+13))=some (H e.reason)) (first|exact U qZ _ hq|exact U qZ _ (U xR)|go_keep) (first|(go_at_call 7;refine(U HBR _ (U xR)).mono ?_;rintro x w8 ⟨rfl,hb8⟩;have hq:=(U xR).trans hb8))
    have HB8:=Z (mr (U qP) hq);clear hq hb8 qZ HBR xR qP
    by_cases jY:r=0
    ·subst jY;go_wp2_with fail;try dsimp only[H,I,J,M,yj,yk,yv,yw,yx,yp,yq,mq];go_roundw
     case rel=>exact⟨k+1,by omega,by go_num,rfl,Z (U HA2 rfl),U HB8⟩
     case measure=>simp[intOf];omega
    ·have oU:(r != 0)=true:=by simpa using jY
     obtain⟨e1,e2⟩:=U HA3 jY;subst e1 e2;go_wp2_with fail;refine U xE _ _ ?_;clear xE;go_wp2_with fail;go_ret;exact⟨rfl,(U xv).trans ((U HB8).mono (U xv).size)⟩
   ·have uL:¬ ((k:Int)<es.length):=by omega
    rw[xa (by omega)] at HRK;go_wp2_with fail;refine U xE _ _ ?_;clear xE;rcases U vv (U HRK) with⟨e1,e2⟩|⟨e1,e2⟩
    all_goals
     subst e1 e2;go_wp2_with fail;go_ret;exact⟨rfl,(U xv).trans ((U qP).mono (U xv).size)⟩
 ·have qU:=flt_two xC cO;rw[qU];generalize apR n q es=xi;go_wp2_with fail;go_ret;exact⟨rfl,(U xv).trans ((U vZ).mono (U xv).size)⟩
theorem lawBrkn (a0:Option Addr)(len0 cap0:Nat)(z0:List Int)(w:World)
  (w0:(a0=none/\len0=0/\cap0=0/\z0 = []) \/ ∃x,a0=some x/\len0<=cap0/\cap0<=maxLen/\z0.length=cap0/\(∀i,i<z0.length->w.cell? (x.add i)=some (.int .u8 (z0.getD i 0)))/\∀n∈z0,(Lit.int .u8 n).wf=true) (hE:ErrT w) :
  Calls Tryz.prog 4 #[.slice a0 len0 cap0] w fun e w'=>e=ym (.bool true)/\yn w w':=by
 by_cases h0:1048576<len0
 ·have h0':(1048576:Int)<len0:=by omega
  clear w0 hE;go_enter Tryz.func4,Tryz.ntmps4;go_wp2_with fail;go_ret;exact⟨rfl,Below.refl _ _⟩
 obtain⟨e0,r0,b0⟩:=rd_of_row w0 (by omega);exact brkLaw _ _ w r0 b0 (by omega) hE
end Go.Proofs.YthhkapcbocgcoaaGreatDoor
