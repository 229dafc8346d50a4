/-.-/
import Derived.Test.YtkofhemdefffpaaGreatDoorPq45
import Derived.Test.YtkofhemdefffpaaGreatDoorPq48
import Derived.Test.YtkofhemdefffpaaGreatDoorPq49
set_option linter.unusedVariables false
set_option maxHeartbeats 6400000
set_option maxRecDepth 100000
namespace Go.Proofs.YtkofhemdefffpaaGreatDoor
open Go.RowKit

def LtE (w:World)(l:List Int)(e:Ending)(w':World):Prop:=∃(n:Int) (qa:Option Addr) (qn qc:Nat) (t:Tot) (ta:Option Addr) (tc:Nat),e=yn (.tuple #[.agg #[H n,.slice qa qn qc,H t.gr,H t.ac,H t.rf,H t.tr,H t.vo,H t.no,H t.li,H t.le,.slice ta (exL l).length tc,H (pkO (exL l)),H (pkL (exL l))],H (exC l)])/\w'.ownsRow w.heap.size 37 8 (.slice ta (exL l).length tc) (exL l).length ((exL l).flatMap Cm.vs)/\yp w w'
theorem lawful_any (v:Value)(l:List Int)(w:World)(hr:Rd w v l)(xW:eJ v)(K:Bts l)(hE:ErrT w) :
  Calls Tryz.prog 11 #[v] w fun e w'=>LtE w l e w':=by
 obtain⟨a,c,rfl⟩:=fi hr;have hlm:l.length<=1073741824:=by obtain⟨_,_,_,h,_⟩:=hr;exact h
 obtain⟨xS,HX⟩:=mh w [H 0,.slice none 0 0,H 0,H 0,H 0,H 0,H 0,H 0,H 0,H 0,.slice none 0 0,H 0,H 0] 46;have HY:Hid (∃xt,(w.alloc (me #[H 0,.slice none 0 0,H 0,H 0,H 0,H 0,H 0,H 0,H 0,H 0,.slice none 0 0,H 0,H 0] 46)).heap[w.heap.size]? = some (.cells xt 46 (0,0))):=⟨_,heap_alloc_new _ _⟩;have HB:=U xS;have jo:w.heap.size<(w.alloc (me #[H 0,.slice none 0 0,H 0,H 0,H 0,H 0,H 0,H 0,H 0,H 0,.slice none 0 0,H 0,H 0] 46)).heap.size:=by simp
 by_cases hl:65536<l.length
 ·have HD:Hid (exL l = []/\exC l=2):=⟨if_pos hl,if_pos hl⟩;unfold LtE;rw[(O HD).1,(O HD).2];have hl':((65536:Int)<l.length):=by omega
  clear hr xW K hE xS;go_enter Tryz.func11,Tryz.ntmps11;go_wp2_with fail;have d:=O HX;refine bodyPost_ret (by simp[results,Tryz.results11,go_sem,J d 0 rfl,J d 1 rfl,J d 2 rfl,J d 3 rfl,J d 4 rfl,J d 5 rfl,J d 6 rfl,J d 7 rfl,J d 8 rfl,J d 9 rfl,J d 10 rfl,J d 11 rfl,J d 12 rfl];try rfl) rfl ?_;exact⟨0,none,0,0,tot0,none,0,rfl,⟨rfl,.inl ⟨rfl,rfl⟩⟩,O HB⟩
 ·have HD:Hid (((judJ l).2.2=0->exL l=(judJ l).1/\exC l=0)/\((judJ l).2.2≠0->exL l = []/\exC l=8)):=⟨fun h=>⟨by unfold exL;rw[if_neg hl,if_pos h],by unfold exC;rw[if_neg hl,if_pos h]⟩,fun h=>⟨by unfold exL;rw[if_neg hl,if_neg h],by unfold exC;rw[if_neg hl,if_neg h]⟩⟩;have hl':¬ ((65536:Int)<l.length):=by omega
  have HJT:=U (judgeTape_any jgClose_any _ l _ (fx hr xS yb) xW K (by omega) (gx hE xS yb));clear hr xW K hE xS;unfold JtE jgV vdV at HJT;unfold LtE;generalize exL l=EL at HD |-;generalize exC l=EC at HD |-;generalize judJ l=JJ at HJT HD;obtain⟨cs,x,r⟩:=JJ;simp only at HJT HD;go_enter Tryz.func11,Tryz.ntmps11;refine mg fun hb HK=>?_;go_wp2_with fail;refine O HK _ _ ?_;clear HK;generalize (w.alloc (me #[H 0,.slice none 0 0,H 0,H 0,H 0,H 0,H 0,H 0,H 0,H 0,.slice none 0 0,H 0,H 0] 46))=W0 at HX HB HY jo HJT |-;refine mg fun hb HK=>?_;go_wp2_with fail;refine O HK _ _ ?_;clear HK;refine mg fun hb HK=>?_;go_wp2_with fail;refine(O HJT).mono ?_;rintro e w1 ⟨vq,vt,rfl,xN,htold,ud⟩;obtain⟨qa,qc,rfl⟩:=gy xN;obtain⟨ta,tc,rfl⟩:=gy htold;have kC:yp w1 ((w1.alloc (me #[H (runS cs).n,.slice qa (runS cs).l.length qc,H (runS cs).t.gr,H (runS cs).t.ac,H (runS cs).t.rf,H (runS cs).t.tr,H (runS cs).t.vo,H (runS cs).t.no,H (runS cs).t.li,H (runS cs).t.le,.slice ta cs.length tc,H (pkO cs),H (pkL cs)] 46)).alloc (me #[.bool (decide (r=0)),H x,H r] 66)):=((Below.refl w1.heap.size w1).alloc yb _).alloc (by simp) _;have xy:=ud.trans (kC.mono ud.size);have xX:(w1.alloc (me #[H (runS cs).n,.slice qa (runS cs).l.length qc,H (runS cs).t.gr,H (runS cs).t.ac,H (runS cs).t.rf,H (runS cs).t.tr,H (runS cs).t.vo,H (runS cs).t.no,H (runS cs).t.li,H (runS cs).t.le,.slice ta cs.length tc,H (pkO cs),H (pkL cs)] 46)).heap.size=w1.heap.size+1:=by simp
  have uI:=U (zl (O HX) xy jo);have HY1:=U (typ_below (O HY) xy);have ui:=U (mf (O HB) xy);have qK:=U (own_keep (zR htold (O HB).size) kC);have pn:Hid (Bx ((w1.alloc (me #[H (runS cs).n,.slice qa (runS cs).l.length qc,H (runS cs).t.gr,H (runS cs).t.ac,H (runS cs).t.rf,H (runS cs).t.tr,H (runS cs).t.vo,H (runS cs).t.no,H (runS cs).t.li,H (runS cs).t.le,.slice ta cs.length tc,H (pkO cs),H (pkL cs)] 46)).alloc (me #[.bool (decide (r=0)),H x,H r] 66)) w1.heap.size [H (runS cs).n,.slice qa (runS cs).l.length qc,H (runS cs).t.gr,H (runS cs).t.ac,H (runS cs).t.rf,H (runS cs).t.tr,H (runS cs).t.vo,H (runS cs).t.no,H (runS cs).t.li,H (runS cs).t.le,.slice ta cs.length tc,H (pkO cs),H (pkL cs)]):=zl (zo w1 [H (runS cs).n,.slice qa (runS cs).l.length qc,H (runS cs).t.gr,H (runS cs).t.ac,H (runS cs).t.rf,H (runS cs).t.tr,H (runS cs).t.vo,H (runS cs).t.no,H (runS cs).t.li,H (runS cs).t.le,.slice ta cs.length tc,H (pkO cs),H (pkL cs)] 46) ((Below.refl (w1.heap.size+1) _).alloc (by rw[xX];exact Nat.le_refl _) _) (by omega)
  have HV1:Hid (Bx ((w1.alloc (me #[H (runS cs).n,.slice qa (runS cs).l.length qc,H (runS cs).t.gr,H (runS cs).t.ac,H (runS cs).t.rf,H (runS cs).t.tr,H (runS cs).t.vo,H (runS cs).t.no,H (runS cs).t.li,H (runS cs).t.le,.slice ta cs.length tc,H (pkO cs),H (pkL cs)] 46)).alloc (me #[.bool (decide (r=0)),H x,H r] 66)) (w1.heap.size+1) [.bool (decide (r=0)),H x,H r]):=by
   have:=zo (w1.alloc (me #[H (runS cs).n,.slice qa (runS cs).l.length qc,H (runS cs).t.gr,H (runS cs).t.ac,H (runS cs).t.rf,H (runS cs).t.tr,H (runS cs).t.vo,H (runS cs).t.no,H (runS cs).t.li,H (runS cs).t.le,.slice ta cs.length tc,H (pkO cs),H (pkL cs)] 46)) [.bool (decide (r=0)),H x,H r] 66;rwa[xX] at this
  have xG:w.heap.size<w1.heap.size:=yK jo ud.size;clear xN htold ud HJT HX HB HY kC xy xX;go_wp2_with fail;refine O HK _ _ ?_;clear HK;generalize ((w1.alloc (me #[H (runS cs).n,.slice qa (runS cs).l.length qc,H (runS cs).t.gr,H (runS cs).t.ac,H (runS cs).t.rf,H (runS cs).t.tr,H (runS cs).t.vo,H (runS cs).t.no,H (runS cs).t.li,H (runS cs).t.le,.slice ta cs.length tc,H (pkO cs),H (pkL cs)] 46)).alloc (me #[.bool (decide (r=0)),H x,H r] 66))=W2 at uI HY1 ui qK pn HV1 |-;generalize w1.heap.size=b1 at pn HV1 xG |-;obtain ⟨z0,z1,z2,z3,z4,z5,z6,z7,z8,z9,kI,ox,oO⟩:=q0_13 (O uI) rfl;obtain ⟨f0,f1,f2,f3,f4,f5,f6,f7,f8,f9,f10,f11,f12⟩:=r0_13 (O uI) rfl;have v0:=J (O HV1) 0 rfl
  by_cases h0:r=0
  ·obtain⟨hEL,hEC⟩:=(O HD).1 h0;have xY:decide (r=0)=true:=by simpa using h0
   have HEL:=U hEL;have HEC:=U hEC;rw[xY] at v0;clear hEL hEC h0 HD xY;obtain ⟨y0,y1,y2,y3,y4,y5,y6,y7,y8,y9,cE,y11,y12⟩:=q0_13 (O pn) rfl;have xP:=U (zy (us:=[H (runS cs).n,.slice qa (runS cs).l.length qc,H (runS cs).t.gr,H (runS cs).t.ac,H (runS cs).t.rf,H (runS cs).t.tr,H (runS cs).t.vo,H (runS cs).t.no,H (runS cs).t.li,H (runS cs).t.le,.slice ta cs.length tc,H (pkO cs),H (pkL cs)]) (O uI) rfl);have jB:=U (zj w.heap.size yb [H (runS cs).n,.slice qa (runS cs).l.length qc,H (runS cs).t.gr,H (runS cs).t.ac,H (runS cs).t.rf,H (runS cs).t.tr,H (runS cs).t.vo,H (runS cs).t.no,H (runS cs).t.li,H (runS cs).t.le,.slice ta cs.length tc,H (pkO cs),H (pkL cs)] 0 _ (O ui));have HTF:=U (iM (zF (O qK) (O HY1) (by decide)) [H (runS cs).n,.slice qa (runS cs).l.length qc,H (runS cs).t.gr,H (runS cs).t.ac,H (runS cs).t.rf,H (runS cs).t.tr,H (runS cs).t.vo,H (runS cs).t.no,H (runS cs).t.li,H (runS cs).t.le,.slice ta cs.length tc,H (pkO cs),H (pkL cs)] 0 W2 (O qK));clear uI ui qK pn HV1 HY1;go_wp2_with fail;rw[set13];have d:=O xP;refine bodyPost_ret (by simp[results,Tryz.results11,go_sem,J d 0 rfl,J d 1 rfl,J d 2 rfl,J d 3 rfl,J d 4 rfl,J d 5 rfl,J d 6 rfl,J d 7 rfl,J d 8 rfl,J d 9 rfl,J d 10 rfl,J d 11 rfl,J d 12 rfl];try rfl) rfl ?_;rw[O HEL,O HEC];exact⟨_,_,_,_,(runS cs).t,ta,tc,rfl,O HTF,O jB⟩
  ·obtain⟨hEL,hEC⟩:=(O HD).2 h0;have xY:decide (r=0)=false:=by simpa using h0
   have HEL:=U hEL;have HEC:=U hEC;rw[xY] at v0;clear hEL hEC h0 HD xY;have xP:=U (zy (us:=[H 0,.slice none 0 0,H 0,H 0,H 0,H 0,H 0,H 0,H 0,H 0,.slice none 0 0,H 0,H 0]) (O uI) rfl);have jB:=U (zj w.heap.size yb [H 0,.slice none 0 0,H 0,H 0,H 0,H 0,H 0,H 0,H 0,H 0,.slice none 0 0,H 0,H 0] 0 _ (O ui));have HTF:=U (iM (zF (O qK) (O HY1) (by decide)) [H 0,.slice none 0 0,H 0,H 0,H 0,H 0,H 0,H 0,H 0,H 0,.slice none 0 0,H 0,H 0] 0 W2 (O qK));clear uI ui qK pn HV1 HY1;go_wp2_with fail;rw[set13];have d:=O xP;refine bodyPost_ret (by simp[results,Tryz.results11,go_sem,J d 0 rfl,J d 1 rfl,J d 2 rfl,J d 3 rfl,J d 4 rfl,J d 5 rfl,J d 6 rfl,J d 7 rfl,J d 8 rfl,J d 9 rfl,J d 10 rfl,J d 11 rfl,J d 12 rfl];try rfl) rfl ?_;rw[O HEL,O HEC];exact⟨0,none,0,0,tot0,none,0,rfl,⟨rfl,.inl ⟨rfl,rfl⟩⟩,O jB⟩
theorem implPeak_any (v:Value)(l:List Int)(w:World)(hr:Rd w v l)(xW:eJ v)(K:Bts l)(hE:ErrT w) :
  Calls Tryz.prog 6 #[v] w fun e w'=>e=yn (.tuple #[H (pkO (exL l)),H (pkL (exL l)),H (exC l)])/\yp w w':=by
 have uz:=U (lawful_any v l w hr xW K hE);unfold LtE at uz;generalize exL l=EL at uz |-;generalize exC l=EC at uz |-;clear hr xW K hE;go_enter Tryz.func6,Tryz.ntmps6;go_wp2_with fail;refine(O uz).mono ?_;rintro e w1 ⟨n,qa,qn,qc,t,ta,tc,rfl,D,ud⟩;have HX:=U (zo w1 [H n,.slice qa qn qc,H t.gr,H t.ac,H t.rf,H t.tr,H t.vo,H t.no,H t.li,H t.le,.slice ta EL.length tc,H (pkO EL),H (pkL EL)] 46);have HB:=U (ud.alloc ud.size (me #[H n,.slice qa qn qc,H t.gr,H t.ac,H t.rf,H t.tr,H t.vo,H t.no,H t.li,H t.le,.slice ta EL.length tc,H (pkO EL),H (pkL EL)] 46));clear D ud uz;go_wp2_with fail;generalize (w1.alloc (me #[H n,.slice qa qn qc,H t.gr,H t.ac,H t.rf,H t.tr,H t.vo,H t.no,H t.li,H t.le,.slice ta EL.length tc,H (pkO EL),H (pkL EL)] 46))=W2 at HX HB |-;generalize w1.heap.size=b at HX |-;have x11:=J (O HX) 11 rfl;have x12:=J (O HX) 12 rfl;go_quiet (fail);go_wp2_with fail;refine bodyPost_ret (by simp[results,Tryz.results6,go_sem];try rfl) rfl ?_;exact⟨rfl,zY (O HB) _⟩
theorem pk_ans (cs:List Cm)(hl:cs.length<=27)(hd:∀c∈cs,DrOk c/\DrIn c):pkO (exL (dN cs))=pkO cs/\pkL (exL (dN cs))=pkL cs/\exC (dN cs)=0/\pkO cs<=20/\pkL cs<=8/\pkL cs<=pkO cs/\(0<pkL cs ↔ 0<pkO cs):=by
 obtain⟨Z,⟨ds,Q,I,h4⟩,h5⟩:=pk_script cs hl hd (ttJ_ok cs);have e1:exL (dN cs)=ds:=by rw[exL,if_neg (by omega),Q];rfl
 have e2:exC (dN cs)=0:=by rw[exC,if_neg (by omega),Q];rfl
 rw[e1];exact⟨I,h4,e2,h5⟩
theorem pkO_take (cs:List Cm){k:Nat}(E:k<cs.length):pkO (cs.take (k+1))=max (pkO (cs.take k)) (runS (cs.take (k+1))).l.length:=by
 have e:cs.take (k+1)=cs.take k ++ [cs[k]]:=by rw[List.take_add_one,yI E];rfl
 rw[e,pkO_snoc]
theorem bRow_cap {W:World}{B:Nat}{v:Value}{l:List Int}(h:BRow W B v l):eJ v:=by
 intro a n c e;rcases h.2 with⟨h0,Z⟩|⟨g,cap,xt,h0,_,_,Q,_⟩
 ·rw[h0] at e;simp at e;omega
 ·rw[h0] at e;simp at e;omega
theorem peakLaw (v:Value)(l:List Int)(w:World)(hr:Rd w v l)(K:Bts l)(hl:l.length<=1048576)(hE:ErrT w) :
  Calls Tryz.prog 3 #[v] w fun e w'=>e=yn (.bool true)/\yp w w':=by
 have HR:=U hr;have HBT:=U K;have HEW:=U hE;obtain⟨a,cap,rfl,-,-⟩:=hr;clear K hE;have hl':¬ ((1048576:Int)<l.length):=by omega
 go_enter Tryz.func3,Tryz.ntmps3;go_wp2_with fail;refine(scriptOf_in _ l w (O HR) (O HBT)).mono ?_;rintro e w1 ⟨o,cs,rfl,ue,hn,xu,ud⟩;obtain⟨ao,co,rfl⟩:=gy xu;have uA:=okB_run cs (fun c hc=>(ue c hc).1.2);have HTP:=U (tpOk_of cs hn (fun c hc=>drIn_fit (ue c hc).1 (ue c hc).2) uA);have HC8:Hid (RdR Cm.vs 8 w1 (.slice ao cs.length co) cs):=ownR_rd (gi Cm.len (by omega) xu);have pX:Hid (∀c∈cs,c.g.size<=maxLen):=fun c hc=>yO (ue c hc).1.1 (by unfold maxLen;omega);have HPK:=U (pk_ans cs hn ue);have jj:=U uA;have ui:=U ud;clear ue xu ud uA HR HBT;go_wp2_with fail;refine(specTapeOf_any _ cs w1 (O HC8) (O pX) (O HTP)).mono ?_;rintro e w2 ⟨v2,rfl,ur,xy⟩;obtain⟨a2,c2,rfl⟩:=lh ur;have xz:=U (mf (O ui) xy);have HC2:=U (zq (O HC8) xy yb)
 have HPE:Hid (Calls Tryz.prog 6 #[.slice a2 (dN cs).length c2] w2 fun e w'=>e=yn (.tuple #[H (pkO cs),H (pkL cs),H 0])/\yp w2 w'):=by
  have h:=implPeak_any _ (dN cs) w2 (il ur (by have:=(O HTP).2.2.2.1;omega)) (bRow_cap ur) (O HTP).2.2.2.2 (gx (O HEW) (O xz) yb);rw[(O HPK).1,(O HPK).2.1,(O HPK).2.2.1] at h;exact h
 clear ur xy ui HC8 HTP HEW;generalize (dN cs).length=tl at HPE |-;go_wp2_with fail;refine(O HPE).mono ?_;rintro e w3 ⟨rfl,xV⟩;have xL:=U (mf (O xz) xV);have jO:=U (zq (O HC2) xV yb);obtain⟨hO,hL,hLO,hi⟩:=(O HPK).2.2.2;have HIF:=U hi;have HPO:Hid (pkO (cs.take cs.length)=pkO cs):=by show _ = _;rw[xa yb]
 clear xV xz HC2 HPE HPK hi;generalize pkO cs=za at hO hLO HIF HPO |-;generalize pkL cs=L at hL hLO HIF |-;have jh:Hid (yp w3 (w3.alloc (me #[H 1,.slice none 0 0] 31))):=mc _ _;have HX9:=U (zo w3 [H 1,.slice none 0 0] 31);go_wp2_with fail;generalize (w3.alloc (me #[H 1,.slice none 0 0] 31))=W9 at jh HX9 |-;generalize Value.agg #[H 1,.slice none 0 0]=dH;go_loopw [10,11] (fun nv i wr=>∃(k:Nat) (vq:Value),k<=cs.length/\i=H k/\nv=H (pkO (cs.take k):Nat)/\Hid (Bx wr w3.heap.size [H (runS (cs.take k)).n,vq])/\Hid (RdR Od.vs 6 wr vq (runS (cs.take k)).l)/\SlOk vq/\yp w3 wr) (fun _ i _=>cs.length-(intOf i).toNat)
 case atStart=>exact⟨0,.slice none 0 0,Nat.zero_le _,rfl,rfl,O HX9,⟨none,0,rfl,by simp[runS],by simp[runS]⟩,.inl rfl,O jh⟩
 case round =>
  obtain⟨k,vq,E,rfl,rfl,vL,hrv,hsl,hbl⟩:=hrel;have HBL:=U hbl;have qJ:=U hsl;obtain⟨av,cv,rfl,-⟩:=id (O hrv);have b0:=J (O vL) 0 rfl;have b1:=J (O vL) 1 rfl;have hsb:w3.heap.size<wr.heap.size:=yL wr _ b0;clear hbl hsl
  by_cases xK:k<cs.length
  ·obtain⟨c,hc⟩:∃c,cs[k]? = some c:=⟨_,yI xK⟩;have bX:(k:Int)<cs.length:=by omega
   have uA:=O jj k (by omega);have qm:=ig cs hc;have jY:=pkO_take cs xK;have hok2:=O jj (k+1) (by omega);have hgt:=O pX c (yP hc)
   obtain⟨lb,lo,rfl,hlb,qd⟩:∃lb lo,ao=some (Y lb lo)/\lb<w3.heap.size/\w3.rangeAt lb (lo+k*8) c.vs:=by
    obtain⟨a1,c1,e1,-,Z⟩:=O jO;simp only[Value.slice.injEq,true_and] at e1;obtain⟨b,off,Q,ah,I⟩:=Z (by intro h;rw[h] at hc;simp at hc);exact⟨b,off,e1.1.trans Q,ah,I k c hc⟩
   rw[qm] at hok2 jY;generalize runS (cs.take k)=s at vL hrv uA qm hok2 jY b0 b1 qJ
   have HSQ:Hid (∀W,RdR Od.vs 6 W (.slice av s.l.length cv) s.l->Calls Tryz.prog 7 #[.agg #[H s.n,.slice av s.l.length cv],.agg (yy c.k c.s c.t c.l c.q c.i c.p c.g).toArray] W fun e w'=>∃vq vg,e=yn (.tuple #[.agg #[H (stN s.n s.l c),vq],vg,H 0])/\ORow w' W.heap.size vq (stL s.n s.l c)/\ERow w' W.heap.size vg (stE s.n s.l c)/\yp W w'):=fun W hW=>by
    have h:=specStepBook_any s.n (.slice av s.l.length cv) s.l c W hW (O qJ) (okB_tags uA) hgt;rw[spN,spL,spE,reaC,if_pos (okB_ok uA),if_pos (okB_ok uA),if_pos (okB_ok uA),if_pos (okB_ok uA)] at h;exact h
   have HOK2:Hid (OkB (stN s.n s.l c) (stL s.n s.l c)):=hok2;have HPT:Hid (pkO (cs.take (k+1))=max (pkO (cs.take k)) (stL s.n s.l c).length):=jY;have kV:Hid (runS (cs.take (k+1))=⟨stN s.n s.l c,stL s.n s.l c,_,_⟩):=qm;clear uA hok2 qm hgt hc jY;generalize stN s.n s.l c=N at HSQ HOK2 kV;generalize stL s.n s.l c=L2 at HSQ HOK2 kV HPT;generalize stE s.n s.l c=hk at HSQ kV;generalize pkO (cs.take k)=pk at HPT |-;obtain⟨l0,l1,l2,l3,l4,l5,l6,l7⟩:=cm_cells (zf qd (O HBL) hlb);clear qd;go_wp2_with fail
   go_region_with (go_at_call 7;refine(O HSQ _ (zq (O hrv) (Below.refl _ _).drew yb)).mono ?_;rintro e w4 ⟨vq4,vg4,rfl,pQ,he4,xF⟩;obtain⟨aq3,cq3,rfl⟩:=et pQ;obtain⟨ag3,cg3,rfl⟩:=et he4;have xQ:=U ((Below.refl _ _).drew.trans xF);have kT:=U pQ;have HQ:=U (zl (dK (O vL)) xF hsb);have q0:=J (O HQ) 0 rfl;have q1:=J (O HQ) 1 rfl;obtain ⟨r0,r1⟩:=r0_2 (O HQ) rfl;clear pQ he4 xF)
   all_goals
    have qj:Hid (RdR Od.vs 6 w4 (.slice aq3 L2.length cq3) L2):=ownR_rd (gi Od.len (by have:=(O HOK2).len;omega) (O kT))
    have HZ:Hid (Bx ((w4.setCell (yr w3 0) (H N)).setCell (yr w3 1) (.slice aq3 L2.length cq3)) w3.heap.size [H (runS (cs.take (k+1))).n,.slice aq3 L2.length cq3]/\RdR Od.vs 6 ((w4.setCell (yr w3 0) (H N)).setCell (yr w3 1) (.slice aq3 L2.length cq3)) (.slice aq3 L2.length cq3) (runS (cs.take (k+1))).l/\SlOk (.slice aq3 L2.length cq3)/\yp w3 ((w4.setCell (yr w3 0) (H N)).setCell (yr w3 1) (.slice aq3 L2.length cq3))):=by
     rw[O kV];exact⟨zy (us:=[H N,.slice aq3 L2.length cq3]) (O HQ) rfl,rd_setC (vs:=[H N,.slice aq3 L2.length cq3]) (O qj) (fun _ e=>by have h:wr.heap.size <= _:=((O kT).lt _ e).1;omega),iq (O kT),zj w3.heap.size yb [H N,.slice aq3 L2.length cq3] 0 w4 ((O HBL).trans ((O xQ).mono (O HBL).size))⟩
    generalize ((w4.setCell (yr w3 0) (H N)).setCell (yr w3 1) (.slice aq3 L2.length cq3))=W5 at HZ |-;have m1:=J (O HZ).1 1 rfl;clear qj xQ kT HQ q0 q1 r0 r1 HOK2 kV vL hrv;go_wp2_with fail
    try dsimp only[H,h3,Y,M,yk,yl,yw,yx,yy,yq,yr,me]
    go_roundw
    case rel =>
     refine⟨k+1,.slice aq3 L2.length cq3,by omega,by go_num,?_,O HZ⟩;rw[O HPT]
     by_cases h:pk<L2.length
     ·rw[if_pos h,Nat.max_eq_right (by omega)]
     ·rw[if_neg h,Nat.max_eq_left (by omega)]
    case measure=>simp[intOf];omega
  ·obtain rfl:k=cs.length:=by omega
   have hcl2:¬ ((cs.length:Int)<cs.length):=by omega
   rw[O HPO];have jB:=U ((O xL).trans ((O HBL).mono (O xL).size));have Z:(za:Int)<=20:=by omega
   have Q:(L:Int)<=8:=by omega
   have I:(L:Int)<=za:=by omega
   by_cases h0:0<za
   ·have h4:(0:Int)<za:=by omega
    have h5:(0:Int)<L:=by have:=(O HIF).2 h0;omega
    go_wp2_with fail;go_ret;exact⟨rfl,O jB⟩
   ·obtain rfl:za=0:=by omega
    obtain rfl:L=0:=by omega
    go_wp2_with fail;go_ret;exact⟨rfl,O jB⟩
theorem lawPeakX (a0:Option Addr)(len0 cap0:Nat)(z0:List Int)(w:World)
  (w0:(a0=none/\len0=0/\cap0=0/\z0 = []) \/ ∃x,a0=some x/\len0<=cap0/\cap0<=maxLen/\z0.length=cap0/\(∀i,i<z0.length->w.cell? (x.add i)=some (.int .u8 (z0.getD i 0)))/\∀n∈z0,(Lit.int .u8 n).wf=true) (hE:ErrT w) :
  Calls Tryz.prog 3 #[.slice a0 len0 cap0] w fun e w'=>e=yn (.bool true)/\yp w w':=by
 by_cases h0:1048576<len0
 ·have h0':(1048576:Int)<len0:=by omega
  clear w0 hE;go_enter Tryz.func3,Tryz.ntmps3;go_wp2_with fail;go_ret;exact⟨rfl,Below.refl _ _⟩
 obtain⟨e0,r0,b0⟩:=rd_of_row w0 (by omega);exact peakLaw _ _ w r0 b0 (by omega) hE
end Go.Proofs.YtkofhemdefffpaaGreatDoor
