/-.-/
import Derived.Test.YthhkapcbocgcoaaGreatDoorKj35
import Derived.Test.YthhkapcbocgcoaaGreatDoorKj36
set_option linter.unusedVariables false
set_option maxHeartbeats 6400000
set_option maxRecDepth 100000
namespace Go.Proofs.YthhkapcbocgcoaaGreatDoor
open Go.RowKit
theorem fldK_len (k:Int):fldK k = []\/(fldK k).length=5:=by
 unfold fldK
 repeat' split
 all_goals simp
theorem fldK_no (k:Int)(h:¬ (1<=k/\k<=9)):fldK k = []:=by unfold fldK;rw[if_neg (by omega),if_neg (by omega),if_neg (by omega),if_neg (by omega),if_neg (by omega)]
theorem restK_no {fs:List Bool}{ns:List Int}{i:Nat}(h:i<5)(D:fs.getD i false=false)(Y:(ns.getD i 0==0)=false):restK fs ns=false:=by
 unfold restK;rw[List.all_eq_false];exact⟨i,List.mem_range.2 h,by rw[D,Y];decide⟩
theorem restK_yes {fs:List Bool}{ns:List Int}(h:∀i,i<5->(fs.getD i false||(ns.getD i 0==0))=true):restK fs ns=true:=by
 unfold restK;rw[List.all_eq_true];exact fun i hi=>h i (List.mem_range.1 hi)
theorem specOK_any (e:Ev)(w:World)(X:e.cmd.g.size<=maxLen):Calls Tryz.prog 57 #[evV e] w fun r w'=>r = .returned (.bool (okE e))/\yn w w':=by
 unfold maxLen at X;obtain⟨xD,uV⟩:=mu w e.vs 37;have jk:Hid ((w.alloc (Obj.cells e.vs.toArray 37)).heap.size=w.heap.size+1):=by show _ = _;simp
 have uf:=Z xD;have HNM:=Z (fun W=>numbers_any e W);have ku:=Z (fun W=>plain_any e.cmd W)
 have HQ:=Z (show okE e=if fldK e.kind = [] then false else if restK (fldK e.kind) (numsE e)=false then false else
  if e.kind=1 then(e.cmd.k==1)&&((e.cmd.i==0)&&decide (e.cmd.g.size<=13)) else if e.kind=2 then decide (e.cmd.g.size<=13) else plainC e.cmd from rfl)
 generalize okE e=ok at *;generalize hnl:numsE e=ns at *;have hns:ns.length=5:=by rw[<- hnl];rfl
 clear xD hnl;generalize plainC e.cmd=pc at *;obtain⟨xm,⟨ck,F,ct,O,cq,ci,cp,cg⟩,id,xj,qty,xk,xh⟩:=e;unfold evV at HNM |-;unfold cmV at ku;unfold Ev.vs at uV jk uf;simp only at HNM ku uV jk uf HQ X |-;go_enter Tryz.func57,Tryz.ntmps57;refine ms fun mR xE=>?_;go_wp2_with fail;refine U xE _ _ ?_;clear xE;generalize (w.alloc (mq (yv xm ck F ct O cq ci cp cg id xj qty xk xh).toArray 37))=W1 at uV jk uf |-;have x0:=A (U uV) 0 rfl;go_wp2_with fail;refine(fields_any xm W1).mono ?_;rintro r W2 ⟨g1,rfl,pZ,hF,xO⟩
 by_cases hk:fldK xm = []
 ·have HQ0:Hid (ok=false):=by rw[U HQ,if_pos hk];exact rfl
  rw[hk];have xv:=Z (mr (U uf) xO);clear hF xO;go_wp2_with fail;go_ret;exact⟨by rw[U HQ0];rfl,U xv⟩
 have hl5:(fldK xm).length=5:=(fldK_len xm).resolve_left hk;rw[if_neg hk] at HQ
 have hk19:1<=xm/\xm<=9:=by
  rcases Classical.em (1<=xm/\xm<=9) with h|h
  ·exact h
  ·exact absurd (fldK_no xm h) hk
 rw[hl5];have jV:=zg (U uV) xO (by rw[U jk];omega);have uZ:w.heap.size<W2.heap.size:=by have:=xO.size;rw[U jk] at this;omega
 obtain⟨z0,z1,z2,z3,z4,z5,z6,z7,z8,z9,jD,ko,kp,kq⟩:=yz (jV);have xG:=Z jV;have ql:=Z hF;have xv:=Z (mr (U uf) xO);clear jV hF xO x0 uV jk uf;generalize hfs:fldK xm=fs at *;clear hfs;go_wp2_with fail;refine(U HNM W2).mono ?_;rintro r W3 ⟨g2,rfl,uD,hN,xL⟩
 have hFg:g1<W2.heap.size:=by
  obtain⟨y,hy⟩:=Option.isSome_iff_exists.1 ((U ql).t 0 (by simp;omega)).1;exact yL W2 _ hy
 have HF3:=Z (zg (U ql) xL hFg);have kh:=zg (U xG) xL uZ;have xI:=Z (mr (U xv) xL);have aj:=Z hN;have uT:=Z kh;clear hN xL z0 z1 z2 z3 z4 z5 z6 z7 z8 z9 jD ko kp kq xG ql xv kh;go_wp2_with fail
 go_loop [5] (fun iv=>∃i:Nat,i<=5/\iv=H i/\∀j,j<i->(fs.getD j false||(ns.getD j 0==0))=true) (fun iv=>5-(intOf iv).toNat)
 case atStart=>exact⟨0,by omega,rfl,fun j hj=>by omega⟩
 case round =>
  obtain⟨i,hi,rfl,R⟩:=hrel;have HA:=Z R;clear R
  by_cases xM:i<5
  ·have hf:W3.cell? (J g1 i)=some (.bool (fs.getD i false)):=A (U HF3) i (by rw[List.getElem?_map,yI (by omega)];simp[List.getD,show i<fs.length by omega]);have hn:W3.cell? (J g2 i)=some (H (ns.getD i 0)):=A (U aj) i (by rw[List.getElem?_map,yI (by omega)];simp[List.getD,show i<ns.length by omega]);have uL:(i:Int)<5:=by omega
   have HS:Hid ((fs.getD i false||(ns.getD i 0==0))=true->∀j,j<i+1->(fs.getD j false||(ns.getD j 0==0))=true):=fun h j hj=>by
    rcases Nat.lt_or_ge j i with D|D
    ·exact U HA j D
    ·obtain rfl:j=i:=by omega
     exact h
   have HNo:=Z (fun D Y=>restK_no (fs:=fs) (ns:=ns) (i:=i) xM D Y);generalize fs.getD i false=fb at *;generalize ns.getD i 0=nn at *;cases fb with
   | true =>
    go_wp2_with fail
    go_round
    case rel=>exact⟨i+1,by omega,by go_num,U HS rfl⟩
    case measure=>simp[intOf];omega
   | false =>
    cases hnn:nn==0 with
    | true =>
     have hn2:(nn != 0)=false:=by rw[bne,hnn];rfl
     have HSS:=Z (U HS (by rw[hnn];rfl));clear hnn HNo;go_wp2_with fail
     go_round
     case rel=>exact⟨i+1,by omega,by go_num,U HSS⟩
     case measure=>simp[intOf];omega
    | false =>
     have hn2:(nn != 0)=true:=by rw[bne,hnn];rfl
     have kt:Hid (ok=false):=by rw[U HQ,if_pos (U HNo rfl hnn)];exact rfl
     clear hnn HNo HS;go_wp2_with fail;go_ret;exact⟨by rw[U kt];rfl,U xI⟩
  ·have hrest:=restK_yes (fs:=fs) (ns:=ns) (fun j hj=>U HA j (by omega));rw[hrest,if_neg (by decide)] at HQ;obtain⟨y0,y1,y2,y3,y4,y5,y6,y7,y8,y9,dO,y11,y12,y13⟩:=yz (U uT);clear hrest HA HF3 aj
   have hdz:decide (cg.size<=13)=decide ((cg.size:Int)<=13):=by
    rw[decide_eq_decide];omega
   by_cases af:xm=1
   ·rw[if_pos af,hdz] at HQ;have e1:(xm==1)=true:=by rw[af];rfl
    clear af hk19;cases D:ck==1 with
    | false =>
     rw[D,Bool.false_and] at HQ;go_wp2_with fail;go_ret;exact⟨by rw[U HQ];rfl,U xI⟩
    | true =>
     rw[D,Bool.true_and] at HQ;cases Y:ci==0 with
     | false =>
      rw[Y,Bool.false_and] at HQ;go_wp2_with fail;go_ret;exact⟨by rw[U HQ];rfl,U xI⟩
     | true =>
      rw[Y,Bool.true_and] at HQ;go_wp2_with fail;go_ret;exact⟨by rw[U HQ];rfl,U xI⟩
   ·rw[if_neg af] at HQ;have e1:(xm==1)=false:=by simpa using af
    by_cases cS:xm=2
    ·rw[if_pos cS,hdz] at HQ;have e2:(xm==2)=true:=by rw[cS];rfl
     clear af cS hk19;go_wp2_with fail;go_ret;exact⟨by rw[U HQ];rfl,U xI⟩
    ·rw[if_neg cS] at HQ;have e2:(xm==2)=false:=by simpa using cS
     clear af cS hk19;go_wp2_with fail;refine(U ku W3).mono ?_;rintro r W4 ⟨rfl,xy⟩;have xF:=Z (mr (U xI) xy);clear xy;go_wp2_with fail;go_ret;exact⟨by rw[U HQ];rfl,U xF⟩
def brkR (next:Int)(l:List Od)(es:List Ev)(e:Ev):Int:=if fltC next l es=0/\okE e=true/\(runG (gr0 next l) es).2=0 then zE (runG (gr0 next l) es).1 e else 0
def brkC (next:Int)(l:List Od)(es:List Ev)(e:Ev):Int:=if fltC next l es≠0 then fltC next l es else if okE e=false then 1 else if (runG (gr0 next l) es).2≠0 then 8 else 0
theorem implBroken_any (next:Int)(vb:Value)(l:List Od)(v:Value)(es:List Ev)(e:Ev)(w:World)(hr:RdR Od.vs 6 w vb l)(hs:SlOk vb)(pC:∀o∈l,o.tag.size<=maxLen)(he:RdR Ev.vs 14 w v es)(hf:∀e∈es,e.fit)(hef:e.fit)(hE:ErrT w) :
  Calls Tryz.prog 7 #[.agg #[H next,vb],v,evV e] w fun x w'=>x = .returned (.tuple #[H (brkR next l es e),H (brkC next l es e)])/\yn w w':=by
 have hsf:=sfl;have kW:=Z (fun W (h:yn w W)=>mi next vb l v es W (zi hr h ya) pC (zi he h ya) hf (fK hE h ya));have kt:=Z (fun W (h:yn w W)=>implOK_any e hef W (fK hE h ya));have HGB:Hid (fltC next l es=0->∀W,yn w W->Calls Tryz.prog 19 #[.agg #[H next,vb],v] W fun x w'=>BehE W.heap.size W (runG (gr0 next l) es) x w'):=fun h0 W h=>mg next vb l v es W (zi hr h ya) hs (okS_gi (flt_ok h0).2.1) (zi he h ya) (flt_ok h0).2.2 (fun e he=>(hf e he).g);have HAD:Hid (okE e=true->∀G B r W vq,GS G B r W vq (runG (gr0 next l) es).1->GI (runG (gr0 next l) es).1->Calls Tryz.prog 20 #[I G 0,evV e] W fun x w'=>x = .returned (H (zE (runG (gr0 next l) es).1 e))/\Below B W w'):=fun h G B r W vq D Y=>(add_any e W D Y h hef.g).mono fun x w' h3=>⟨h3.1,h3.2.1⟩;have qe:Hid (brkR next l es e=if fltC next l es=0/\okE e=true/\(runG (gr0 next l) es).2=0 then zE (runG (gr0 next l) es).1 e else 0):=rfl
 have qM:Hid (brkC next l es e=if fltC next l es≠0 then fltC next l es else if okE e=false then 1 else if (runG (gr0 next l) es).2≠0 then 8 else 0):=rfl
 generalize brkR next l es e=br at qe |-;generalize brkC next l es e=bc at qM |-;generalize fltC next l es=fc at kW HGB qe qM;generalize okE e=ok at kt HAD qe qM;generalize zE (runG (gr0 next l) es).1 e=re at HAD qe;generalize runG (gr0 next l) es=cs at HGB HAD qe qM;obtain⟨g1,ru⟩:=cs;simp only at HAD qe qM;obtain⟨xm,⟨ck,F,ct,O,cq,ci,cp,cg⟩,id,xj,qty,xk,xh⟩:=e;unfold evV at kt HAD |-;simp only at kt HAD |-;obtain⟨a,cap,rfl,xC,hc⟩:=he;have qJ:(w.alloc (mq #[H next,vb] 27)).heap.size=w.heap.size+1:=by simp
 have xD:=mn w (mq #[H next,vb] 27);have uw:Below (w.heap.size+1) (w.alloc (mq #[H next,vb] 27)) ((w.alloc (mq #[H next,vb] 27)).alloc (mq (yv xm ck F ct O cq ci cp cg id xj qty xk xh).toArray 37)):=(Below.refl _ _).alloc (by rw[qJ];omega) _;have HS:Hid (((w.alloc (mq #[H next,vb] 27)).alloc (mq (yv xm ck F ct O cq ci cp cg id xj qty xk xh).toArray 37)).heap.size=w.heap.size+1+1):=by show _ = _;simp
 have oQ:=Z (zg (zn w [H next,vb] 27) uw (by omega))
 have cD:Hid (Bx ((w.alloc (mq #[H next,vb] 27)).alloc (mq (yv xm ck F ct O cq ci cp cg id xj qty xk xh).toArray 37)) (w.heap.size+1) (yv xm ck F ct O cq ci cp cg id xj qty xk xh)):=by
  have:=zn (w.alloc (mq #[H next,vb] 27)) (yv xm ck F ct O cq ci cp cg id xj qty xk xh) 37;rwa[qJ] at this
 have ud:Hid (yn w ((w.alloc (mq #[H next,vb] 27)).alloc (mq (yv xm ck F ct O cq ci cp cg id xj qty xk xh).toArray 37))):=xD.trans (uw.mono (by omega));clear xD uw qJ hr hs pC hf hE hc hef;go_enter Tryz.func7,Tryz.ntmps7;refine ms fun mR HK=>?_;go_wp2_with fail;refine U HK _ _ ?_;clear HK;generalize ((w.alloc (mq #[H next,vb] 27)).alloc (mq (yv xm ck F ct O cq ci cp cg id xj qty xk xh).toArray 37))=W1 at ud oQ cD HS |-;obtain ⟨x0,x1⟩:=q0_2 (U oQ) rfl;go_wp2_with fail;refine(U kW W1 (U ud)).mono ?_;rintro e w2 ⟨rfl,xO⟩;have hz:=U HS;have xv:=Z (mr (U ud) xO);have xG:=Z (zg (U oQ) xO (by omega));have ja:=Z (zg (U cD) xO (by omega));have uZ:w.heap.size+1<w2.heap.size:=by have:=xO.size;omega
 clear xO x0 x1 oQ cD ud kW hz HS
 by_cases hfc:fc=0
 case neg =>
  have b0:(fc != 0)=true:=by simpa using hfc
  have HQ:Hid (br=0/\bc=fc):=⟨by rw[U qe,if_neg (fun h=>hfc h.1)],by rw[U qM,if_pos hfc]⟩;clear hfc;go_wp2_with fail;go_ret2;exact⟨by rw[(U HQ).1,(U HQ).2];rfl,U xv⟩
 have b0:(fc != 0)=false:=by simpa using hfc
 have HGB2:=Z (U HGB hfc);have dm:=Z (U qM);rw[if_neg (not_not_intro hfc)] at dm;have HFZ:=Z hfc;clear hfc HGB qM;obtain⟨e0,e1,e2,e3,e4,e5,e6,e7,e8,e9,uW,uE,vS,vH⟩:=yz (U ja);go_wp2_with fail;refine(U kt w2 (U xv)).mono ?_;rintro e w3 ⟨rfl,xL⟩;have xI:=Z (mr (U xv) xL);have uT:=Z (zg (U xG) xL (by omega));have aT:=Z (zg (U ja) xL uZ);have hz3:w.heap.size+1<w3.heap.size:=by have:=xL.size;omega
 clear xL e0 e1 e2 e3 e4 e5 e6 e7 e8 e9 uW uE vS vH xG ja xv uZ b0;cases ok
 case false =>
  have HQ:Hid (br=0/\bc=1):=⟨by rw[U qe,if_neg (fun h=>Bool.noConfusion h.2.1)],by rw[U dm,if_pos rfl]⟩;go_wp2_with fail;go_ret2;exact⟨by rw[(U HQ).1,(U HQ).2];rfl,U xI⟩
 have HC3:=Z (U dm);rw[if_neg (by simp)] at HC3;obtain ⟨x0,x1⟩:=q0_2 (U uT) rfl;go_wp2_with fail;refine(U HGB2 w3 (U xI)).mono ?_;rintro e w4 ⟨G,rfl,xy,pF⟩;have xF:=Z (mr (U xI) xy);have uo:=Z (zg (U aT) xy hz3);have py:=Z pF;clear xy pF x0 x1 uT aT;simp only at py |-
 by_cases hru:ru=0
 case neg =>
  have b0:(ru != 0)=true:=by simpa using hru
  have HQ:Hid (br=0/\bc=8):=⟨by rw[U qe,if_neg (fun h=>hru h.2.2)],by rw[U HC3,if_pos hru]⟩;clear hru;go_wp2_with fail;go_ret2;exact⟨by rw[(U HQ).1,(U HQ).2];rfl,U xF⟩
 have b0:(ru != 0)=false:=by simpa using hru
 have HQ:Hid (br=re/\bc=0):=⟨by rw[U qe,if_pos ⟨U HFZ,trivial,hru⟩],by rw[U HC3,if_neg (not_not_intro hru)]⟩;obtain⟨r,vq,hgs,hgi⟩:=U py hru;have jr:=Z (U HAD trivial G w3.heap.size r w4 vq hgs hgi);clear hru hgs hgi py HAD;obtain⟨e0,e1,e2,e3,e4,e5,e6,e7,e8,e9,uW,uE,vS,vH⟩:=yz (U uo);go_wp2_with fail;refine(U jr).mono ?_;rintro e w5 ⟨rfl,uc⟩;have ui:=Z ((U xF).trans (uc.mono (U xI).size));clear uc;go_wp2_with fail;go_ret2;exact⟨by rw[(U HQ).1,(U HQ).2];rfl,U ui⟩
theorem l05Events_any (v:Value)(l:List Ev)(w:World)(hr:RdR Ev.vs 14 w v l)(hf:∀e∈l,e.fit):Calls Tryz.prog 24 #[v] w fun r w'=>r = .returned (.bool (l.all okE))/\yn w w':=by
 have hsf:=sfl;obtain⟨a,cap,rfl,hl,hc⟩:=hr;have HC:=Z hc;have HF:=Z hf;clear hc hf;go_enter Tryz.func24,Tryz.ntmps24;go_wp2_with fail;go_loopw [3] (fun iv wr=>∃k:Nat,k<=l.length/\iv=H k/\(l.take k).all okE=true/\yn w wr) (fun iv _=>l.length-(intOf iv).toNat)
 case atStart=>exact⟨0,Nat.zero_le _,rfl,rfl,Below.refl _ _⟩
 case round =>
  obtain⟨k,hk,rfl,R,E⟩:=hrel;have HB:=Z E;have HA:=Z R;clear E R
  by_cases xM:k<l.length
  ·obtain⟨e,jo⟩:∃e,l[k]? = some e:=⟨_,yI xM⟩;obtain⟨b,off,rfl,pl,xW⟩:=U HC (by intro h;rw[h] at xM;simp at xM);have xn:=zc (xW k e jo) (U HB) pl;have uL:(k:Int)<l.length:=by omega
   have qV:=U HF e (yP jo);have HO:=Z (specOK_any e wr qV.g)
   have HT:Hid ((l.take (k+1)).all okE=((l.take k).all okE&&okE e)):=by
    show(l.take (k+1)).all okE = _;rw[List.take_add_one,jo];simp
   have HNo:Hid (okE e=false->l.all okE=false):=fun h=>List.all_eq_false.2 ⟨e,yP jo,by rw[h];decide⟩;generalize okE e=ok at *;obtain⟨xm,⟨ck,F,ct,O,cq,ci,cp,cg⟩,id,xj,qty,xk,xh⟩:=e;unfold evV at HO;simp only at HO;have x0:wr.cell? (J b (off+k*14)) = _:=xn 0 _ rfl;have x1:=xn 1 _ rfl;have x2:=xn 2 _ rfl;have x3:=xn 3 _ rfl;have x4:=xn 4 _ rfl;have x5:=xn 5 _ rfl;have x6:=xn 6 _ rfl;have x7:=xn 7 _ rfl;have x8:=xn 8 _ rfl;have x9:=xn 9 _ rfl;have kS:=xn 10 _ rfl;have kT:=xn 11 _ rfl;have kU:=xn 12 _ rfl;have kV:=xn 13 _ rfl;clear xn xW jo qV;go_wp2_with fail;refine(U HO).mono ?_;rintro r W3 ⟨rfl,xL⟩;have xI:=Z (mr (U HB) xL);clear xL x0 x1 x2 x3 x4 x5 x6 x7 x8 x9 kS kT kU kV;cases ok with
   | true =>
    go_wp2_with fail;go_roundw
    case rel=>exact⟨k+1,by omega,by go_num,by rw[U HT,U HA];rfl,U xI⟩
    case measure=>simp[intOf];omega
   | false =>
    have HNN:=Z (U HNo rfl);go_wp2_with fail;go_ret;exact⟨by rw[U HNN];rfl,U xI⟩
  ·have aC:k=l.length:=by omega
   have HY:Hid (l.all okE=true):=by
    have:=U HA;rwa[aC,List.take_length] at this
   go_wp2_with fail;go_ret;exact⟨by rw[U HY];rfl,U HB⟩
def endR (g:Gr):Int:=if g.bg=0\/(dueG g).kind≠0 then 15 else 0
def apR (next:Int)(l:List Od)(es:List Ev):Int:=if fltC next l es≠0 then 0 else if (runG (gr0 next l) es).2=0 then endR (runG (gr0 next l) es).1 else(runG (gr0 next l) es).2
def apC (next:Int)(l:List Od)(es:List Ev):Int:=if fltC next l es≠0 then fltC next l es else if apR next l es≠0 then 8 else 0
def apN (next:Int)(l:List Od)(es:List Ev):Int:=if fltC next l es=0/\apR next l es=0 then(runG (gr0 next l) es).1.nx else 0
def apL (next:Int)(l:List Od)(es:List Ev):List Od:=if fltC next l es=0/\apR next l es=0 then(runG (gr0 next l) es).1.l else[]
def ApE (w:World)(n:Int)(hR:List Od)(r c:Int)(x:Ending)(w':World):Prop:=∃v,x=ym (.tuple #[.agg #[H n,v],H r,H c])/\ORow w' w.heap.size v hR/\yn w w'
theorem fieldDu (dk di dt dq dp:Int)(W:World):Sem.run Tryz.prog (Instr.field 39 (.agg #[H dk,H di,H dt,H dq,H dp]) 0) W = .ok (H dk) W:=by kernel_rfl
theorem endRule_any {G B r:Nat}{vq:Value}{g:Gr}(w:World)(h:GS G B r w vq g)(hi:GI g):Calls Tryz.prog 22 #[I G 0] w fun e w'=>e=ym (H (endR g))/\yn w w':=by
 have hfd:=fieldDu;have HD:=Z (due_any w h hi);have HR:Hid (endR g=if g.bg=0\/(dueG g).kind≠0 then 15 else 0):=rfl
 have c3:=A h.box 3 rfl;generalize endR g=er at HR |-;generalize dueG g=d at HD HR;obtain⟨dk,di,dt,dq,dp⟩:=d;unfold duV at HD;simp only at HD HR;clear h hi
 by_cases E:g.bg=0
 ·have HQ:=Z (U HR);rw[if_pos (.inl E)] at HQ;rw[E] at c3;go_enter Tryz.func22,Tryz.ntmps22;go_wp2_with fail;go_ret;exact⟨by rw[U HQ];rfl,Below.refl _ _⟩
 ·have b0:(g.bg==0)=false:=by simpa using E
  by_cases hk:dk=0
  ·have HQ:=Z (U HR);rw[if_neg (fun h=>h.elim E (fun h=>h hk))] at HQ;have b1:(dk != 0)=false:=by simpa using hk
   clear hk E;go_enter Tryz.func22,Tryz.ntmps22;go_wp2_with fail;refine(U HD).mono ?_;rintro e w2 ⟨rfl,xO⟩;have HB:=Z xO;clear xO;go_wp2_with fail;go_ret;exact⟨by rw[U HQ];rfl,U HB⟩
  ·have HQ:=Z (U HR);rw[if_pos (.inr hk)] at HQ;have b1:(dk != 0)=true:=by simpa using hk
   clear hk E;go_enter Tryz.func22,Tryz.ntmps22;go_wp2_with fail;refine(U HD).mono ?_;rintro e w2 ⟨rfl,xO⟩;have HB:=Z xO;clear xO;go_wp2_with fail;go_ret;exact⟨by rw[U HQ];rfl,U HB⟩
theorem implApply_any (next:Int)(vb:Value)(l:List Od)(v:Value)(es:List Ev)(w:World)(hr:RdR Od.vs 6 w vb l)(hs:SlOk vb)(pC:∀o∈l,o.tag.size<=maxLen)(he:RdR Ev.vs 14 w v es)(hf:∀e∈es,e.fit)(hE:ErrT w) :
  Calls Tryz.prog 9 #[.agg #[H next,vb],v] w fun x w'=>ApE w (apN next l es) (apL next l es) (apR next l es) (apC next l es) x w':=by
 have hsf:=sfl;have kW:=Z (fun W (h:yn w W)=>mi next vb l v es W (zi hr h ya) pC (zi he h ya) hf (fK hE h ya));have HGB:Hid (fltC next l es=0->∀W,yn w W->Calls Tryz.prog 19 #[.agg #[H next,vb],v] W fun x w'=>BehE W.heap.size W (runG (gr0 next l) es) x w'):=fun h0 W h=>mg next vb l v es W (zi hr h ya) hs (okS_gi (flt_ok h0).2.1) (zi he h ya) (flt_ok h0).2.2 (fun e he=>(hf e he).g);have oe:Hid (∀G B r W vq,GS G B r W vq (runG (gr0 next l) es).1->GI (runG (gr0 next l) es).1->Calls Tryz.prog 22 #[I G 0] W fun x w'=>x=ym (H (endR (runG (gr0 next l) es).1))/\yn W w'):=fun G B r W vq D Y=>endRule_any W D Y;have HR:Hid (apR next l es=if fltC next l es≠0 then 0 else if (runG (gr0 next l) es).2=0 then endR (runG (gr0 next l) es).1 else(runG (gr0 next l) es).2):=rfl
 have HC:Hid (apC next l es=if fltC next l es≠0 then fltC next l es else if apR next l es≠0 then 8 else 0):=rfl
 have HN:Hid (apN next l es=if fltC next l es=0/\apR next l es=0 then(runG (gr0 next l) es).1.nx else 0):=rfl
 have HL:Hid (apL next l es=if fltC next l es=0/\apR next l es=0 then(runG (gr0 next l) es).1.l else[]):=rfl
 generalize apN next l es=an at HN |-;generalize apL next l es=al at HL |-;generalize apC next l es=ac at HC |-;generalize apR next l es=ar at HR HC HN HL |-;generalize fltC next l es=fc at kW HGB HR HC HN HL;generalize endR (runG (gr0 next l) es).1=er at oe HR;generalize runG (gr0 next l) es=cs at HGB oe HR HN HL;obtain⟨g1,ru⟩:=cs;simp only at oe HR HN HL;have H1:Hid (fc≠0->an=0/\al = []/\ar=0/\ac=fc):=fun h=>⟨by rw[U HN,if_neg (fun Y=>h Y.1)],by rw[U HL,if_neg (fun Y=>h Y.1)],by rw[U HR,if_pos h],by rw[U HC,if_pos h]⟩
 have H2:Hid (∀q,fc=0->(if ru=0 then er else ru)=q->q≠0->an=0/\al = []/\ar=q/\ac=8):=fun q h hq Y=>by
  have ha:ar=q:=by rw[U HR,if_neg (not_not_intro h),hq]
  exact⟨by rw[U HN,if_neg (fun h3=>Y (ha ▸ h3.2))],by rw[U HL,if_neg (fun h3=>Y (ha ▸ h3.2))],ha,by rw[U HC,if_neg (not_not_intro h),if_pos (ha ▸ Y)]⟩
 have H3:Hid (fc=0->ru=0->er=0->an=g1.nx/\al=g1.l/\ar=0/\ac=0):=fun h Y h3=>by
  have ha:ar=0:=by rw[U HR,if_neg (not_not_intro h),if_pos Y,h3]
  exact⟨by rw[U HN,if_pos ⟨h,ha⟩],by rw[U HL,if_pos ⟨h,ha⟩],ha,by rw[U HC,if_neg (not_not_intro h),if_neg (not_not_intro ha)]⟩
 unfold ApE;obtain⟨hX,hY,hB,hZ⟩:=wb2_box w [H next,vb] [H 0,.slice none 0 0] 27 27;have HX:=Z hX;have HD:=Z hY;have HB:=Z hB;generalize hW:wb2 w [H next,vb] [H 0,.slice none 0 0] 27 27 = W1 at HX HD HB hZ;have HW:=Z hW;obtain⟨a,cap,rfl,xC,hc⟩:=he;clear hr hs pC hf hc hX hY hB hW HR HC HN HL hE;go_enter Tryz.func9,Tryz.ntmps9;refine ms fun mR HK=>?_;go_wp2_with fail;refine U HK _ _ ?_;clear HK;change Code.wp _ _ _ _ (wb2 w [H next,vb] [H 0,.slice none 0 0] 27 27);rw[U HW];clear HW;obtain ⟨x0,x1⟩:=q0_2 (U HX) rfl;go_wp2_with fail;refine(U kW W1 (U HB)).mono ?_;rintro e w2 ⟨rfl,E⟩;have HB:=Z (mr (U HB) E);have HX:=Z (zg (U HX) E (by omega));have HD:=Z (zg (U HD) E hZ);have hZ:w.heap.size+1<w2.heap.size:=by have:=E.size;omega
 clear E x0 x1 kW
 by_cases hfc:fc=0
 case neg =>
  have b0:(fc != 0)=true:=by simpa using hfc
  have HQ:=Z (U H1 hfc);clear hfc;obtain ⟨z0,z1⟩:=q0_2 (U HD) rfl;obtain ⟨f0,f1⟩:=r0_2 (U HD) rfl;go_wp2_with fail
  try simp +zetaDelta only[Exit.noGoto_ret]
  change bodyPost _ _ _ _ _ (World.setCells w2 (w.heap.size+1) 0 [H 0,.slice none 0 0]);have xp:Hid ((World.setCells w2 (w.heap.size+1) 0 [H 0,.slice none 0 0]).rangeAt (w.heap.size+1) 0 [H 0,.slice none 0 0]/\yn w (World.setCells w2 (w.heap.size+1) 0 [H 0,.slice none 0 0])/\ORow (World.setCells w2 (w.heap.size+1) 0 [H 0,.slice none 0 0]) w.heap.size (.slice none 0 0) []):=⟨(zq (U HD) (by simp only[List.length_cons,List.length_nil])).r,zh (w.heap.size+1) (by omega) [H 0,.slice none 0 0] 0 w2 (U HB),World.ownsRow_nil _ _ _ _⟩;generalize World.setCells w2 (w.heap.size+1) 0 [H 0,.slice none 0 0]=WE at xp |-;have d0:WE.cell? (J (w.heap.size+1) 0)=some (H 0):=(U xp).1 0 _ rfl;have d1:WE.cell? (J (w.heap.size+1) 1)=some (.slice none 0 0):=(U xp).1 1 _ rfl
  try simp only[Exit.inBlock,Exit.then]
  refine bodyPost_ret (by simp[results,Tryz.results9,go_sem,d0,d1];try rfl) rfl ?_;refine⟨_,by rw[(U HQ).1,(U HQ).2.2.1,(U HQ).2.2.2];try rfl,?_,(U xp).2.1⟩;rw[(U HQ).2.1];exact(U xp).2.2
 have b0:(fc != 0)=false:=by simpa using hfc
 have HFZ:=Z hfc;clear hfc;obtain ⟨x0,x1⟩:=q0_2 (U HX) rfl;have hBW:w.heap.size+1<w2.heap.size:=hZ;go_wp2_with fail;refine(U HGB (U HFZ) w2 (U HB)).mono ?_;rintro e w4 ⟨G,rfl,E,pF⟩;have HB:=Z (mr (U HB) E);have HX:=Z (zg (U HX) E (by omega));have HD:=Z (zg (U HD) E hZ);have hZ:w.heap.size+1<w4.heap.size:=by have:=E.size;omega
 have py:=Z pF;clear E pF x0 x1;simp only at py |-
 by_cases hru:ru=0
 case neg =>
  have b1:(ru==0)=false:=by simpa using hru
  have b2:(ru != 0)=true:=by simpa using hru
  have HQ:=Z (U H2 ru (U HFZ) (if_neg hru) hru);clear hru;obtain ⟨z0,z1⟩:=q0_2 (U HD) rfl;obtain ⟨f0,f1⟩:=r0_2 (U HD) rfl;go_wp2_with fail
  try simp +zetaDelta only[Exit.noGoto_ret]
  change bodyPost _ _ _ _ _ (World.setCells w4 (w.heap.size+1) 0 [H 0,.slice none 0 0]);have xp:Hid ((World.setCells w4 (w.heap.size+1) 0 [H 0,.slice none 0 0]).rangeAt (w.heap.size+1) 0 [H 0,.slice none 0 0]/\yn w (World.setCells w4 (w.heap.size+1) 0 [H 0,.slice none 0 0])/\ORow (World.setCells w4 (w.heap.size+1) 0 [H 0,.slice none 0 0]) w.heap.size (.slice none 0 0) []):=⟨(zq (U HD) (by simp only[List.length_cons,List.length_nil])).r,zh (w.heap.size+1) (by omega) [H 0,.slice none 0 0] 0 w4 (U HB),World.ownsRow_nil _ _ _ _⟩;generalize World.setCells w4 (w.heap.size+1) 0 [H 0,.slice none 0 0]=WE at xp |-;have d0:WE.cell? (J (w.heap.size+1) 0)=some (H 0):=(U xp).1 0 _ rfl;have d1:WE.cell? (J (w.heap.size+1) 1)=some (.slice none 0 0):=(U xp).1 1 _ rfl
  try simp only[Exit.inBlock,Exit.then]
  refine bodyPost_ret (by simp[results,Tryz.results9,go_sem,d0,d1];try rfl) rfl ?_;refine⟨_,by rw[(U HQ).1,(U HQ).2.2.1,(U HQ).2.2.2];try rfl,?_,(U xp).2.1⟩;rw[(U HQ).2.1];exact(U xp).2.2
 have b1:(ru==0)=true:=by simpa using hru
 obtain⟨r,vq,hgs,hgi⟩:=U py hru;have jr:=Z (U oe G _ r w4 vq hgs hgi);have HGS:=Z hgs;have HLQ:=Z hgi.len;have HRZ:=Z hru;clear hru hgs hgi py oe;go_wp2_with fail;refine(U jr).mono ?_;rintro e w5 ⟨rfl,E⟩;have HGS:=Z (zA (U HGS) E);have HB:=Z (mr (U HB) E);have HX:=Z (zg (U HX) E (by omega));have HD:=Z (zg (U HD) E hZ);have hZ:w.heap.size+1<w5.heap.size:=by have:=E.size;omega
 clear E b1
 by_cases kj:er=0
 case neg =>
  have b2:(er != 0)=true:=by simpa using kj
  have HQ:=Z (U H2 er (U HFZ) (if_pos (U HRZ)) kj);clear kj;obtain ⟨z0,z1⟩:=q0_2 (U HD) rfl;obtain ⟨f0,f1⟩:=r0_2 (U HD) rfl;go_wp2_with fail
  try simp +zetaDelta only[Exit.noGoto_ret]
  change bodyPost _ _ _ _ _ (World.setCells w5 (w.heap.size+1) 0 [H 0,.slice none 0 0]);have xp:Hid ((World.setCells w5 (w.heap.size+1) 0 [H 0,.slice none 0 0]).rangeAt (w.heap.size+1) 0 [H 0,.slice none 0 0]/\yn w (World.setCells w5 (w.heap.size+1) 0 [H 0,.slice none 0 0])/\ORow (World.setCells w5 (w.heap.size+1) 0 [H 0,.slice none 0 0]) w.heap.size (.slice none 0 0) []):=⟨(zq (U HD) (by simp only[List.length_cons,List.length_nil])).r,zh (w.heap.size+1) (by omega) [H 0,.slice none 0 0] 0 w5 (U HB),World.ownsRow_nil _ _ _ _⟩;generalize World.setCells w5 (w.heap.size+1) 0 [H 0,.slice none 0 0]=WE at xp |-;have d0:WE.cell? (J (w.heap.size+1) 0)=some (H 0):=(U xp).1 0 _ rfl;have d1:WE.cell? (J (w.heap.size+1) 1)=some (.slice none 0 0):=(U xp).1 1 _ rfl
  try simp only[Exit.inBlock,Exit.then]
  refine bodyPost_ret (by simp[results,Tryz.results9,go_sem,d0,d1];try rfl) rfl ?_;refine⟨_,by rw[(U HQ).1,(U HQ).2.2.1,(U HQ).2.2.2];try rfl,?_,(U xp).2.1⟩;rw[(U HQ).2.1];exact(U xp).2.2
 have b2:(er != 0)=false:=by simpa using kj
 have HQ:=Z (U H3 (U HFZ) (U HRZ) kj);clear kj;obtain⟨qa,qc,rfl⟩:=gf (zI (U HGS).row (yO (U HLQ) (by decide)));have c1:=A (U HGS).box 1 rfl;have c2:=A (U HGS).box 2 rfl;obtain ⟨z0,z1⟩:=q0_2 (U HD) rfl;obtain ⟨f0,f1⟩:=r0_2 (U HD) rfl;go_wp2_with fail
 try simp +zetaDelta only[Exit.noGoto_ret]
 change bodyPost _ _ _ _ _ (World.setCells w5 (w.heap.size+1) 0 [H g1.nx,.slice qa g1.l.length qc]);have xp:Hid ((World.setCells w5 (w.heap.size+1) 0 [H g1.nx,.slice qa g1.l.length qc]).rangeAt (w.heap.size+1) 0 [H g1.nx,.slice qa g1.l.length qc]/\yn w (World.setCells w5 (w.heap.size+1) 0 [H g1.nx,.slice qa g1.l.length qc])/\ORow (World.setCells w5 (w.heap.size+1) 0 [H g1.nx,.slice qa g1.l.length qc]) w.heap.size (.slice qa g1.l.length qc) g1.l):=⟨(zq (U HD) (by simp only[List.length_cons,List.length_nil])).r,zh (w.heap.size+1) (by omega) [H g1.nx,.slice qa g1.l.length qc] 0 w5 (U HB),gQ (fun e=>by have:=((U HGS).row.lt _ e.symm).1;omega) [H g1.nx,.slice qa g1.l.length qc] 0 w5 (zU (U HGS).row (by omega))⟩;generalize World.setCells w5 (w.heap.size+1) 0 [H g1.nx,.slice qa g1.l.length qc]=WE at xp |-;have d0:WE.cell? (J (w.heap.size+1) 0)=some (H g1.nx):=(U xp).1 0 _ rfl;have d1:WE.cell? (J (w.heap.size+1) 1)=some (.slice qa g1.l.length qc):=(U xp).1 1 _ rfl
 try simp only[Exit.inBlock,Exit.then]
 refine bodyPost_ret (by simp[results,Tryz.results9,go_sem,d0,d1];try rfl) rfl ?_;refine⟨_,by rw[(U HQ).1,(U HQ).2.2.1,(U HQ).2.2.2];try rfl,?_,(U xp).2.1⟩;rw[(U HQ).2.1];exact(U xp).2.2
theorem runG_app:∀(a b:List Ev) (g:Gr),runG g (a++b)=if (runG g a).2=0 then runG (runG g a).1 b else runG g a
 | [],b,g=>by simp[runG]
 | e::r,b,g=>by
  rw[List.cons_append,runG,runG];split
  ·exact runG_app r b _
  ·simp
theorem flt_take {next:Int}{l:List Od}{es:List Ev}(h:fltC next l es=0)(k:Nat):fltC next l (es.take k)=0:=by
 obtain⟨D,Y,h3⟩:=flt_ok h;have hl:(es.take k).length<=es.length:=by rw[List.length_take];omega
 unfold fltC;rw[if_neg (by omega),if_neg];rintro(h4|h4)
 ·rw[Y] at h4;cases h4
 ·have:(es.take k).all okE=true:=List.all_eq_true.2 (fun e he=>h3 e (List.mem_of_mem_take he));rw[this] at h4;cases h4
theorem brk_at {next:Int}{l:List Od}{es:List Ev}{k:Nat}{e:Ev}(h:fltC next l es=0)(hk:es[k]? = some e)(hr:(runG (gr0 next l) (es.take k)).2=0):brkC next l (es.take k) e=0/\(brkR next l (es.take k) e=0->(runG (gr0 next l) (es.take (k+1))).2=0)/\(brkR next l (es.take k) e≠0->apR next l es=brkR next l (es.take k) e/\apC next l es=8):=by
 have D:=flt_take h k;have Y:=(flt_ok h).2.2 e (yP hk);have h3:brkR next l (es.take k) e=zE (runG (gr0 next l) (es.take k)).1 e:=if_pos ⟨D,Y,hr⟩
 have hd:es=es.take k++(e::es.drop (k+1)):=by
  have xM:=(yH.1 hk).1;have:=xd xM;rw[(yH.1 hk).2] at this;rw[<- this,List.take_append_drop]
 refine⟨by rw[brkC,if_neg (fun h=>h D),if_neg (by rw[Y];decide),if_neg (fun h=>h hr)],fun h0=>?_,fun h0=>?_⟩
 ·rw[h3] at h0;have ht:es.take (k+1)=es.take k ++ [e]:=by rw[List.take_add_one,hk];rfl
  rw[ht,runG_app,if_pos hr,runG,if_pos h0,runG]
 ·rw[h3] at h0 |-
  have X:(runG (gr0 next l) es).2=zE (runG (gr0 next l) (es.take k)).1 e:=by
   conv=>lhs;rw[hd]
   rw[runG_app,if_pos hr,runG,if_neg h0]
  have ha:apR next l es=zE (runG (gr0 next l) (es.take k)).1 e:=by rw[apR,if_neg (fun h'=>h' h),if_neg (by rw[X];exact h0),X]
  exact⟨ha,by rw[apC,if_neg (fun h'=>h' h),if_pos (by rw[ha];exact h0)]⟩
theorem brk_end {next:Int}{l:List Od}{es:List Ev}(h:fltC next l es=0)(hr:(runG (gr0 next l) es).2=0):(apR next l es=0/\apC next l es=0)\/(apR next l es=15/\apC next l es=8):=by
 have ha:apR next l es=endR (runG (gr0 next l) es).1:=by rw[apR,if_neg (fun h'=>h' h),if_pos hr]
 have he:endR (runG (gr0 next l) es).1=0\/endR (runG (gr0 next l) es).1=15:=by unfold endR;split <;> simp
 rcases he with he|he
 ·exact .inl ⟨ha.trans he,by rw[apC,if_neg (fun h'=>h' h),if_neg (fun h'=>h' (ha.trans he))]⟩
 ·exact .inr ⟨ha.trans he,by rw[apC,if_neg (fun h'=>h' h),if_pos (by rw[ha,he];decide)]⟩
theorem flt_two {next:Int}{l:List Od}{es:List Ev}(h:es.length<=100)(hn:fltC next l es≠0):apC next l es=1:=by
 have hc:fltC next l es=1:=by
  unfold fltC at hn |-;rw[if_neg (by omega)] at hn |-;split at hn
  ·next D=>rw[if_pos D]
  ·exact absurd rfl hn
 rw[apC,if_pos (by rw[hc];decide),hc]
end Go.Proofs.YthhkapcbocgcoaaGreatDoor
