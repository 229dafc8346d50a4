/-.-/
import Derived.Test.YtkofhemdefffpaaGreatDoorPq24
set_option linter.unusedVariables false
set_option maxHeartbeats 6400000
set_option maxRecDepth 100000
namespace Go.Proofs.YtkofhemdefffpaaGreatDoor
open Go.RowKit
theorem rdF_num {o k:Nat}{l:List Int}(h:plcO o=true):rdF o l k=(getU l k).map fun x=>(H (unz x.1),x.2):=by
 unfold plcO at h;unfold rdF;rw[if_neg (by intro e;subst e;simp at h),if_neg (by intro e;subst e;simp at h)]
theorem plc_enter (o:Nat)(h:plcO o=true)(args:Array Value)(W:World):(callFunc (plcV o) args).run Tryz.prog W = .ok (.enter (plcV o) args) W:=by
 rcases(show o=1\/o=2\/o=3\/o=4\/o=5\/o=6\/o=9\/o=10\/o=11\/o=12\/o=13 by simp[plcO] at h;omega) with rfl|rfl|rfl|rfl|rfl|rfl|rfl|rfl|rfl|rfl|rfl
 all_goals kernel_rfl
theorem readNum_any (wb:World)(R hk b o:Nat)(v:Value)(l:List Int)(k:Nat)(vs:List Value)(W:World)(hs:RSr wb R v l k W)(hx:Bx W hk vs)(hE:R<hk)(D:plcO o=true)(hv:vs.length=14)(hbR:R≠b)(hc:W.cell? ⟨b,0,none⟩=some (.func (.func (plcV o)) #[] #[])) :
  Calls Tryz.prog 207 #[.pointer (some ⟨R,0,none⟩),.pointer (some ⟨hk,0,none⟩),.pointer (some ⟨b,0,none⟩)] W fun e w'=>FdEnd wb R hk v l o vs W (rdF o l k) e w':=by
 have oj:o<vs.length:=by unfold plcO at D;simp at D;omega
 have HP:=U (fun W=>plc_any o hk W D);have hpe:=plc_enter o D;have HF:=U (rdF_num (l:=l) (k:=k) D);have HS:=U hs;have HX:=U hx;have HV:=U hv;clear hs hx D hv;generalize plcV o=f at *;go_enter Tryz.func207,Tryz.ntmps207;go_wp2_with fail;refine(O HP _).mono ?_;rintro e w1 ⟨rfl,pH⟩;rw[pH];clear pH;go_wp2_with fail;refine(number_rs (O HS)).mono ?_;rintro e w2 hN;cases F:getU l k with
 | none =>
  obtain⟨p,rfl⟩:=hN.2.2 F;have HG:=U hN.1;have HT:Hid (rdF o l k=none):=(O HF).trans (by simp[F]);clear hN F;go_wp2_with fail;exact⟨rfl,fdEnd_fail (O HG) (O HT) _⟩
 | some x =>
  obtain⟨u,n⟩:=x;obtain⟨rfl,cW⟩:=hN.2.1 u n F;have HG:=U hN.1;have cK:=U cW;have HN:=U (io 10 0 0 l k u n F).1;have HT:Hid (rdF o l k=some (H (unz u),n)):=(O HF).trans (by simp[F]);clear hN cW F
  have pI:Bx w2 hk vs:=dm (O HX) ((O HG).block hk (by
   obtain⟨y,hy⟩:=Option.isSome_iff_exists.1 ((O HX).t 0 (by omega)).1;exact yL W _ hy) (by simp;omega))
  have c0:=J pI o (yI oj);have f0:=zg pI o oj;clear pI;generalize unz u=z at *;go_wp2_with fail;go_end0;exact fdEnd_done (O HS) (O HX) (O HG) hE (O HT) (O HN) (O cK) oj
theorem readPrice_any (wb:World)(R hk:Nat)(v:Value)(l:List Int)(k:Nat)(vs:List Value)(W:World)(hs:RSr wb R v l k W)(hx:Bx W hk vs)(hE:R<hk)(hv:vs.length=14) :
  Calls Tryz.prog 188 #[.pointer (some ⟨R,0,none⟩),.pointer (some ⟨hk,0,none⟩)] W fun e w'=>FdEnd wb R hk v l 7 vs W (rdF 7 l k) e w':=by
 have oj:7<vs.length:=by omega
 have HS:=U hs;have HX:=U hx;have HV:=U hv;have hsf:=sfl;clear hs hx hv;go_enter Tryz.func188,Tryz.ntmps188;go_wp2_with fail;refine(float_rs (O HS)).mono ?_;rintro e w2 hN;cases F:eD l k with
 | none =>
  obtain⟨p,rfl⟩:=hN.2.2 F;have HG:=U hN.1;have HT:Hid (rdF 7 l k=none):=by show rdF 7 l k=none;simp[rdF,F]
  clear hN F;go_wp2_with fail;exact⟨rfl,fdEnd_fail (O HG) (O HT) _⟩
 | some x =>
  obtain⟨u,n⟩:=x;obtain⟨rfl,cW⟩:=hN.2.1 u n F;have HG:=U hN.1;have cK:=U cW;have HN:=U (floatA_le F).1;have HT:Hid (rdF 7 l k=some (yk u,n)):=by show rdF 7 l k = _;simp[rdF,F]
  clear hN cW F
  have pI:Bx w2 hk vs:=dm (O HX) ((O HG).block hk (by
   obtain⟨y,hy⟩:=Option.isSome_iff_exists.1 ((O HX).t 0 (by omega)).1;exact yL W _ hy) (by simp;omega))
  have c0:=J pI 7 (yI oj);have f0:=zg pI 7 oj;clear pI;go_wp2_with fail;go_end0;exact fdEnd_done (O HS) (O HX) (O HG) hE (O HT) (O HN) (O cK) oj
theorem readTag_any (wb:World)(R hk:Nat)(v:Value)(l:List Int)(k:Nat)(vs:List Value)(W:World)(hs:RSr wb R v l k W)(hx:Bx W hk vs)(hE:R<hk)(hv:vs.length=14) :
  Calls Tryz.prog 190 #[.pointer (some ⟨R,0,none⟩),.pointer (some ⟨hk,0,none⟩)] W fun e w'=>FdEnd wb R hk v l 8 vs W (rdF 8 l k) e w':=by
 have oj:8<vs.length:=by omega
 have HS:=U hs;have HX:=U hx;have HV:=U hv;clear hs hx hv;go_enter Tryz.func190,Tryz.ntmps190;go_wp2_with fail;refine(text_rs (O HS)).mono ?_;rintro e w2 hN;cases F:eg l k with
 | none =>
  obtain⟨p,rfl⟩:=hN.2.2 F;have HG:=U hN.1;have HT:Hid (rdF 8 l k=none):=by show rdF 8 l k=none;simp[rdF,F]
  clear hN F;go_wp2_with fail;exact⟨rfl,fdEnd_fail (O HG) (O HT) _⟩
 | some x =>
  obtain⟨u,n⟩:=x;obtain⟨rfl,cW⟩:=hN.2.1 u n F;have HG:=U hN.1;have cK:=U cW;have HN:=U (textA_le F).1;have HT:Hid (rdF 8 l k=some (yl u,n)):=by show rdF 8 l k = _;simp[rdF,F]
  clear hN cW F
  have pI:Bx w2 hk vs:=dm (O HX) ((O HG).block hk (by
   obtain⟨y,hy⟩:=Option.isSome_iff_exists.1 ((O HX).t 0 (by omega)).1;exact yL W _ hy) (by simp;omega))
  have c0:=J pI 8 (yI oj);have f0:=zg pI 8 oj;clear pI;go_wp2_with fail;go_end0;exact fdEnd_done (O HS) (O HX) (O HG) hE (O HT) (O HN) (O cK) oj
theorem readField_any (wb w0:World)(hg R hk o:Nat)(c:Fc)(v:Value)(l:List Int)(k:Nat)(vs:List Value)(W:World)(hs:RSr wb R v l k W)(hx:Bx W hk vs)(hE:R<hk)(hv:vs.length=14)(D:o=7\/o=8\/plcO o=true)(hf:FF W hg o c)(hF:R<hg) :
  Calls Tryz.prog c.n2 (#[.pointer (some ⟨R,0,none⟩),.pointer (some ⟨hk,0,none⟩)]++c.l) W fun e w'=>FdEnd wb R hk v l o vs W (rdF o l k) e w':=by
 unfold FF at hf;rcases D with rfl|rfl|D
 ·rw[if_pos rfl] at hf;subst hf;exact readPrice_any wb R hk v l k vs W hs hx hE hv
 ·rw[if_neg (by decide),if_pos rfl] at hf;subst hf;exact readTag_any wb R hk v l k vs W hs hx hE hv
 ·rw[if_neg (by intro e;subst e;simp[plcO] at D),if_neg (by intro e;subst e;simp[plcO] at D)] at hf;obtain⟨b,rfl,Z,Q,I⟩:=hf;exact readNum_any wb R hk b o v l k vs W hs hx hE D hv (by omega) I
theorem field_enter (hg o:Nat)(c:Fc)(W:World)(hf:FF W hg o c)(args:Array Value)(V:World):(callFunc c.n2 args).run Tryz.prog V = .ok (.enter c.n2 args) V/\(callFunc c.n1 args).run Tryz.prog V = .ok (.enter c.n1 args) V:=by
 unfold FF at hf;split at hf
 ·subst hf;exact⟨by kernel_rfl,by kernel_rfl⟩
 ·split at hf
  ·subst hf;exact⟨by kernel_rfl,by kernel_rfl⟩
  ·obtain⟨b,rfl,_⟩:=hf;exact⟨by kernel_rfl,by kernel_rfl⟩
def fl8 (u:Nat):List Int:=[(u:Int) / 72057594037927936 % 256,(u:Int) / 281474976710656 % 256,(u:Int) / 1099511627776 % 256,(u:Int) / 4294967296 % 256,
 (u:Int) / 16777216 % 256,(u:Int) / 65536 % 256,(u:Int) / 256 % 256,(u:Int) % 256]
theorem gm (u:Nat):(fl8 u).length=8:=rfl
theorem Tryz.arrayLen282:Tryz.prog.arrayLen 282 = 8:=by kernel_rfl
def da (e:Ev):Cm:=if e.kind=1 then e.cmd else if e.kind=2 then e.cmd else if e.kind=6 then⟨2,0,0,0,0,e.id,0,⟨#[]⟩⟩ else if e.kind=7 then⟨3,0,0,0,e.qty,e.id,0,⟨#[]⟩⟩ else if e.kind=8 then⟨4,0,0,0,0,0,0,⟨#[]⟩⟩ else zCm
def iw (k:Int):Bool:=(k==1)||((k==2)||((k==6)||((k==7)||(k==8))))
theorem isKind_any (c:Int)(a:Option Addr)(n cap:Nat)(w:World):Calls Tryz.prog 130 #[.agg #[H c,.slice a n cap]] w fun e w'=>e = .returned (.bool (decide (0<n)))/\yp w w':=by
 go_enter Tryz.func130,Tryz.ntmps130;go_wp2_with fail;go_ret;exact⟨rfl,by go_grown⟩
theorem gp {w W:World}(h:yp w W)(R:Nat):w.grownBy W (some R):=⟨h.os,h.tape,h.output,h.size,fun i hi _=>h.block i hi⟩
theorem gr_bel {w W V:World}{R:Nat}(h:w.grownBy W (some R))(Q:yp W V):w.grownBy V (some R):=zr h (gp Q R)
theorem ff_gr {hg o R:Nat}{W W':World}{c:Fc}(h:FF W hg o c)(K:W.grownBy W' (some R))(hR:R<hg):FF W' hg o c:=by
 unfold FF at h |-;split
 ·rwa[if_pos ‹_›] at h
 ·rw[if_neg ‹_›] at h;split
  ·rwa[if_pos ‹_›] at h
  ·rw[if_neg ‹_›] at h;obtain⟨b,Z,Q,I,h4⟩:=h;exact⟨b,Z,Q,yK I K.size,K.cell h4 (by simp;omega)⟩
theorem event_any (wb:World)(R:Nat)(v:Value)(l:List Int)(k:Nat)(w:World)(hs:RSr wb R v l k w) :
  Calls Tryz.prog 104 #[.pointer (some ⟨R,0,none⟩)] w fun e w'=>EvEnd R v w (evA l k) e w':=by
 have hsf:=sfl;have hsfn:=sfn;have hRw:=hs.lt;have xC:(l.length:Int)<=65536:=by have:=hs.ll;omega
 have bX:=hs.kk;have ui:Hid (yp w (w.alloc (me (yw 0 0 0 0 0 0 0 0 ⟨#[]⟩ 0 0 0 0 0).toArray 78))):=mc _ _;have uI:=U (zo w (yw 0 0 0 0 0 0 0 0 ⟨#[]⟩ 0 0 0 0 0) 78);have oT:=U (hs.below (O ui) hRw);have aS:Hid ((w.alloc (me (yw 0 0 0 0 0 0 0 0 ⟨#[]⟩ 0 0 0 0 0).toArray 78)).heap.size=w.heap.size+1):=by show _ = _;simp
 have HS:=U hs;clear hs;rw[show(yw 0 0 0 0 0 0 0 0 ⟨#[]⟩ 0 0 0 0 0).toArray=(yw 0 0 0 0 0 0 0 0 ⟨#[]⟩ 0 0 0 0 0).toArray from rfl] at uI;obtain⟨a,cap,hv⟩:=fi (O HS).rd;go_enter Tryz.func104,Tryz.ntmps104;go_wp2_with fail;generalize (w.alloc (me (yw 0 0 0 0 0 0 0 0 ⟨#[]⟩ 0 0 0 0 0).toArray 78))=W1 at ui uI oT aS |-
 by_cases vE:l.length<=k
 ·have HE:=U (evA_end vE);have HR:=U (hv ▸ (O oT).r);refine(iO R 1 k a l.length cap _ (O HR) (by omega) (by omega) (by omega) (by omega) (by omega)).mono ?_;rintro e w1 ⟨rfl,q,rfl⟩;go_wp2_with fail;exact⟨rfl,evEnd_fail (zr (gp (O ui) R) (ef _ _ _)) (O HE) _⟩
 clear hv
 obtain⟨b,off,jd,rfl,oY,xW,xp⟩:∃b off jd,v = .slice (some ⟨b,off,none⟩) l.length jd/\b<wb.heap.size/\l.length<=jd/\W1.cell? ⟨b,off+k,none⟩=some (.int .u8 (l.getD k 0)):=by
  obtain⟨a',c',hv',_,hc⟩:=(O oT).rd;obtain⟨b,off,rfl,xp⟩:=hc (by intro h;rw[h] at vE;simp at vE);have ud:=yL wb _ (xp 0 (by omega));exact⟨b,off,c',hv',ud,(O oT).cap _ _ _ hv',((O oT).bel.cell (p:=⟨b,off+k,none⟩) ud).trans (xp k (by omega))⟩
 have HR:=U (O oT).r;refine(take_ok R 1 k b off l.length jd _ (O HR) (by omega) (by omega) xW (by omega)).mono ?_;rintro e w2 ⟨rfl,q,rfl⟩;have hgs:=zr (fI W1 ⟨R,1,none⟩ (H ((k+1:Nat):Int))) (ef _ q _);have uf:=U (zr (gp (O ui) R) hgs);have xZ:=U ((O oT).go hgs (((O oT).r.step ((k+1:Nat):Int)).drewN q) (by omega));have xR:=U (dm (O uI) (hgs.block w.heap.size (by rw[O aS];omega) (by simp;omega)));have bK:Hid (w.heap.size<((W1.setCell ⟨R,1,none⟩ (H ((k+1:Nat):Int))).drewN q).heap.size):=yK (by rw[O aS];omega) hgs.size;have pC:=hgs.cell xp (by have:=(O oT).le;simp;omega);have hbt:=gk (O HS).bb k;have HSh:=U (fun(h:shF (l.getD k 0) = [])=>evA_no (by omega) h);have HYe:=U (fun(h:shF (l.getD k 0) ≠ [])=>evA_yes (by omega) h);clear hgs oT uI ui HR xp aS HS;generalize (W1.setCell ⟨R,1,none⟩ (H ((k+1:Nat):Int))).drewN q=W2 at uf xZ xR bK pC |-;generalize l.getD k 0=kd at *;obtain⟨pP,hk1⟩:=hbt;go_wp2_with fail;refine(shape_any kd W2).mono ?_;rintro e W3 ⟨fv,fs,rfl,hof,cS,xV⟩;have uh:=O bK;have jK:=(ffs_get cS).1;have qO:=U hof;have HF3:=U cS;have aU:=(O xZ).below xV (O xZ).lt;have hX3:=zl (O xR) xV uh;have hG3:=gr_bel (O uf) xV;have hz3:=yK uh xV.size;obtain⟨fa,bM,rfl,hfl,xN⟩:=hof;obtain⟨xF,xH⟩:=mh W3 [H (shC kd),.slice fa fs.length bM] 207;have HS4:=U (aU.below xF aU.lt);have HX4r:=U (zl hX3 xF hz3);have uX:=U (gr_bel hG3 xF);have kT:=U (ownR_below (O qO) xF yb);have HF4:=U (fun(o:Nat) (c:Fc) (h:FF W3 W2.heap.size o c)=>ff_below h xF yb);have HZ4:Hid (W3.heap.size<(W3.alloc (me #[H (shC kd),.slice fa fs.length bM] 207)).heap.size):=by show _ < _;simp
 rw[show[H (shC kd),.slice fa fs.length bM].toArray = #[H (shC kd),.slice fa fs.length bM] from rfl] at xH;clear cS xV aU hX3 hG3 xN xF xZ xR uf qO;go_wp2_with fail;generalize (W3.alloc (me #[H (shC kd),.slice fa fs.length bM] 207))=W4 at xH HS4 HX4r uX kT HF4 HZ4 |-;refine(isKind_any (shC kd) fa fs.length bM W4).mono ?_;rintro e W5 ⟨rfl,uj⟩;have hz4:=O HZ4;have bE:=U ((O HS4).below uj (O HS4).lt);have HX5r:=U (zl (O HX4r) uj (by omega));have qz:=U (zl (O xH) uj hz4);have uE:=U (gr_bel (O uX) uj);have pu:=U (ownR_below (O kT) uj yb);have HF5:=U (fun(o:Nat) (c:Fc) (h:FF W3 W2.heap.size o c)=>ff_below (O HF4 o c h) uj yb);have HZ5:=U (yK hz4 uj.size);clear uj HS4 HX4r xH uX kT HF4 HZ4 hz4
 by_cases xE:fs.length=0
 ·have HE:=U (O HSh (List.length_eq_zero_iff.1 (jK.trans xE)));have HR:=U (O bE).r;rw[xE];go_wp2_with fail;refine(fu R 3 _ _ _ (O HR)).mono ?_;rintro e w6 ⟨rfl,rfl⟩;go_wp2_with fail;exact⟨rfl,evEnd_fail (O uE) (O HE) _⟩
 have jL:decide (0<fs.length)=true:=by simpa using Nat.pos_of_ne_zero xE
 have c50:=J (O qz) 0 rfl;rw[jL];have HYE:=U (O HYe (by intro h;rw[h] at jK;exact xE jK.symm));have vU:=mc W5 (me (yw kd (shC kd) 0 0 0 0 0 0 ⟨#[]⟩ 0 0 0 0 0).toArray 78);have qb:Hid (Bx (W5.alloc (me (yw kd (shC kd) 0 0 0 0 0 0 ⟨#[]⟩ 0 0 0 0 0).toArray 78)) W5.heap.size (ev0 kd).vs):=zo W5 (ev0 kd).vs 78;have HS6:=U ((O bE).below vU (O bE).lt);have qD:=U (gp vU R);have c51:=J (zl (O qz) vU (O HZ5)) 1 rfl;clear vU jL;go_wp2_with fail;generalize (W5.alloc (me (yw kd (shC kd) 0 0 0 0 0 0 ⟨#[]⟩ 0 0 0 0 0).toArray 78))=W6 at qb HS6 qD c51 |-;go_loopw [28] (fun iv wr=>∃(i n:Nat) (x:Ev),iv=H i/\i<=fs.length/\W5.grownBy wr (some R)/\RSr wb R (.slice (some ⟨b,off,none⟩) l.length jd) l n wr/\Bx wr W5.heap.size x.vs/\rdEs ((shF kd).drop i) x l n=evA l k) (fun iv _=>fs.length-(intOf iv).toNat)
 case atStart=>exact⟨0,k+1,ev0 kd,rfl,Nat.zero_le _,O qD,O HS6,O qb,(O HYE).symm⟩
 case round =>
  obtain⟨i,n,x,rfl,hi,F,hs,hx,xY⟩:=hrel;have HG:=U F;have HS:=U hs;have HX:=U hx;have qj:=U xY;clear F hs hx xY
  by_cases xK:i<fs.length
  ·obtain⟨c,hic⟩:∃c,fs[i]? = some c:=⟨_,yI xK⟩;obtain⟨o,oA,hfo⟩:=(ffs_get (O HF3)).2 i c hic;have hfo5:=O HF5 o c hfo;obtain⟨a7,c7,e7,_,xN⟩:=O pu;simp only[Value.slice.injEq] at e7;obtain⟨rfl,_,rfl⟩:=e7;obtain⟨g,rfl,hg0,oh,uK,_⟩:=xN (by intro h;rw[h] at xK;simp at xK);have hR5:=(O bE).lt;have hRF:R<W2.heap.size:=Nat.lt_trans hRw (O bK);have uN:g≠R:=by omega
   have q0:=(O HG).cell (uK i c hic 0 _ rfl) (by simp;omega);have q1:=(O HG).cell (uK i c hic 1 _ rfl) (by simp;omega);simp only[Nat.zero_add,Nat.add_zero] at q0 q1;have hen:=fun args V=>(field_enter _ o c W5 hfo5 args V).1;have hEV:=shF_evO kd o (yP oA);have ux:(i:Int)<fs.length:=by omega
   have hd:=xd (show i<(shF kd).length by rw[jK];exact xK);rw[(yH.1 oA).2] at hd;obtain⟨n1,n2,cl⟩:=c;have jc:=mc wr (me #[.func (.func n1) #[] cl,.func (.func n2) #[] cl] 211)
   have hEw:W5.heap.size<wr.heap.size:=by
    obtain⟨y,hy⟩:=Option.isSome_iff_exists.1 ((O HX).t 0 (by rw[Ev.len];decide)).1;exact yL wr _ hy
   have HCT:=U (readField_any wb w W2.heap.size R W5.heap.size o ⟨n1,n2,cl⟩ _ l n x.vs _ ((O HS).below jc (O HS).lt) (zl (O HX) jc hEw) hR5 (Ev.len x) hEV (ff_below (ff_gr hfo5 (O HG) hRF) jc yb) hRF);have HGA:=U (gr_bel (O HG) jc);have HD:=U hd;have qp:=U hEV;clear uK hic oA hfo hfo5 hd jc hEV;simp only at hen HCT;go_wp2_with fail;refine(O HCT).mono ?_;rintro e w7 hFd;cases F:rdF o l n with
   | none =>
    obtain⟨p,rfl⟩:=hFd.2.2 F;have HE:=U (((O qj).symm.trans (by rw[O HD])).trans (gY (os:=(shF kd).drop (i+1)) (e:=x) F));have js:=U (zr (O uE) (gr2_on (O HGA) hFd.1 yb));clear hFd F;go_wp2_with fail;exact⟨rfl,evEnd_fail (O js) (O HE) _⟩
   | some y =>
    obtain⟨y,m⟩:=y;obtain⟨rfl,hs7,hx7⟩:=hFd.2.1 y m F;have HE:=U (((O qj).symm.trans (by rw[O HD])).trans (gO (os:=(shF kd).drop (i+1)) (e:=x) F));have js:=U (gr2_on (O HGA) hFd.1 yb);rw[evs_put x (O qp) (rdF_ty F)] at hx7;have HS7:=U hs7;have HX7:=U hx7;clear hFd F hs7 hx7;go_wp2_with fail;go_roundw
    case rel=>exact⟨i+1,m,x.put o y,by go_num,by omega,O js,O HS7,O HX7,(O HE).symm⟩
    case measure=>simp[intOf];omega
  ·have qR:i=fs.length:=by omega
   have HE:Hid (evA l k=some (x,n)):=by
    show evA l k = _;rw[<- O qj,List.drop_eq_nil_of_le (by omega)];rfl
   have cy:=O HX;obtain⟨xn,⟨ck,cs,ct,cl,cq,ci,cp,cg⟩,id,xj,qty,xk,xi⟩:=x;obtain ⟨d0,d1,d2,d3,d4,d5,d6,d7,d8,d9,pz,aa,ab,af⟩:=q0_14 cy rfl;have uG:=U (dm (O HX5r) ((O HG).block w.heap.size (Nat.lt_trans hz3 (O HZ5)) (by simp;omega)));have HRN:=U (O HS).r;have HGW:=U (zr (O uE) (O HG));clear cy qj;have z0:=J (O uG) 0 rfl;have f0:=zg (O uG) 0 (by decide);have z1:=J (O uG) 1 rfl;have f1:=zg (O uG) 1 (by decide);have z2:=J (O uG) 2 rfl;have f2:=zg (O uG) 2 (by decide);have z3:=J (O uG) 3 rfl;have f3:=zg (O uG) 3 (by decide);have z4:=J (O uG) 4 rfl;have f4:=zg (O uG) 4 (by decide);have z5:=J (O uG) 5 rfl;have f5:=zg (O uG) 5 (by decide);have z6:=J (O uG) 6 rfl;have f6:=zg (O uG) 6 (by decide);have z7:=J (O uG) 7 rfl;have f7:=zg (O uG) 7 (by decide);have z8:=J (O uG) 8 rfl;have f8:=zg (O uG) 8 (by decide);have z9:=J (O uG) 9 rfl;have f9:=zg (O uG) 9 (by decide);have kI:=J (O uG) 10 rfl;have f10:=zg (O uG) 10 (by decide);have ox:=J (O uG) 11 rfl;have f11:=zg (O uG) 11 (by decide);have oO:=J (O uG) 12 rfl;have f12:=zg (O uG) 12 (by decide);have z13:=J (O uG) 13 rfl;have f13:=zg (O uG) 13 (by decide);clear qz HX5r pu HF5 c50 c51 qb HS6 qD pC bE HX;go_wp2_with fail;rw[set14];have xP:=U (zy (us:=(yw xn ck cs ct cl cq ci cp cg id xj qty xk xi)) (O uG) rfl);have HQ:=U (evEnd_done (iV (yw xn ck cs ct cl cq ci cp cg id xj qty xk xi) (O HGW) (Nat.le_refl w.heap.size)) (O HE) (iT (yw xn ck cs ct cl cq ci cp cg id xj qty xk xi) (O HRN) (by omega)));clear z0 f0 z1 f1 z2 f2 z3 f3 z4 f4 z5 f5 z6 f6 z7 f7 z8 f8 z9 f9 kI f10 ox f11 oO f12 z13 f13 d0 d1 d2 d3 d4 d5 d6 d7 d8 d9 pz aa ab af uG;generalize (wr.setCells w.heap.size 0 (yw xn ck cs ct cl cq ci cp cg id xj qty xk xi))=WF at xP HQ |-;obtain⟨d0,d1,d2,d3,d4,d5,d6,d7,d8,d9,pz,aa,ab,af⟩:=yz (O xP);refine bodyPost_ret (v:=evV ⟨xn,⟨ck,cs,ct,cl,cq,ci,cp,cg⟩,id,xj,qty,xk,xi⟩) ?_ rfl (O HQ);simp[results,Tryz.f104,go_sem,d0,d1,d2,d3,d4,d5,d6,d7,d8,d9,pz,aa,ab,af,evV]
def Ev.num (e:Ev):Nat->Int
 | 1=>e.cmd.k
 | 2=>e.cmd.s
 | 3=>e.cmd.t
 | 4=>e.cmd.l
 | 5=>e.cmd.q
 | 6=>e.cmd.i
 | 9=>e.id
 | 10=>e.other
 | 11=>e.qty
 | 12=>e.price
 | 13=>e.reason
 | _=>0
structure Ev.fit (e:Ev):Prop where
 n:∀o,-9223372036854775808<=e.num o/\e.num o<=9223372036854775807
 k:-9223372036854775808<=e.kind/\e.kind<=9223372036854775807
 p:e.cmd.p<18446744073709551616
 g:e.cmd.g.size<=maxLen
def wrF (e:Ev)(o:Nat):List Int:=if o=7 then fl8 (fbit e.cmd.p) else if o=8 then dZ e.cmd.g else putU (zz (e.num o))
theorem tryE_box (w:World):Bx ((w.alloc (me (yw 0 0 0 0 0 0 0 0 ⟨#[]⟩ 0 0 0 0 0).toArray 78)).alloc (me #[.nilIface] 127)) w.heap.size (yw 0 0 0 0 0 0 0 0 ⟨#[]⟩ 0 0 0 0 0):=
 zl (zo w (yw 0 0 0 0 0 0 0 0 ⟨#[]⟩ 0 0 0 0 0) 78) ((Below.refl (w.heap.size+1) _).alloc (by simp) _) (by omega)
theorem tryE_err (w:World):Bx ((w.alloc (me (yw 0 0 0 0 0 0 0 0 ⟨#[]⟩ 0 0 0 0 0).toArray 78)).alloc (me #[.nilIface] 127)) (w.heap.size+1) [.nilIface]:=by
 have h:=zo (w.alloc (me (yw 0 0 0 0 0 0 0 0 ⟨#[]⟩ 0 0 0 0 0).toArray 78)) [.nilIface] 127;rwa[show(w.alloc (me (yw 0 0 0 0 0 0 0 0 ⟨#[]⟩ 0 0 0 0 0).toArray 78)).heap.size=w.heap.size+1 by simp] at h
theorem gr_set1 {w W:World}{R b j:Nat}{u:Value}(h:w.grownBy W (some R))(K:w.heap.size<=b):w.grownBy (W.setCell ⟨b,j,none⟩ u) (some R):=
 ⟨h.os,h.tape,h.output,by have:=h.size;simpa[World.setCell] using this,fun i hi hR=>by rw[yT _ _ _ _ (by show i≠b;omega)];exact h.block i hi hR⟩
theorem lS (p:Addr)(x:Value)(c k:Int)(older:List PanicEntry)(w:World)(hc:w.cell? p=some x)(hz:w.frozen? p=false) :
  CallsD Tryz.prog 149 #[.pointer (some p)] (.panicking ({ v:=dM c k,recovered:=false } :: older)) w fun e u' w' =>
   e = .returned (.tuple #[])/\u' = .panicking ({ v:=dM c k,recovered:=true } :: older)/\w'=w.setCell p (dM c k):=by
 refine callsD_of_wpS Tryz.func149 rfl fun c₀ cs hu=>?_;simp only[dM] at hu |-;apply wpS_seq;apply wpS_region;simp[wpOpsS,go_sem,recoverD,hu,Tryz.ntmps149,Exit.thenS,ta_fault];apply wpS_seq;apply wpS_region;simp[wpOpsS,go_sem,Exit.thenS];refine wpS_cond (t:=true) (by simp[Act.eval,Array.replicate]) ?_;simp only[if_true];apply wpS_region;simp[wpOpsS,go_sem,hc,hz,bodyPostS,results,Tryz.results149]
theorem catch_idleE (p:Addr)(w:World) :
  CallsD Tryz.prog 149 #[.pointer (some p)] .returning w fun e u' w'=>e = .returned (.tuple #[])/\u' = .returning/\w'=w:=by
 refine callsD_of_wpS Tryz.func149 rfl fun c₀ cs hu=>?_;apply wpS_seq;apply wpS_region;simp[wpOpsS,go_sem,recoverD,hu,Tryz.ntmps149,Exit.thenS,ta_nil];apply wpS_seq;apply wpS_region;simp[wpOpsS,go_sem,Exit.thenS];refine wpS_cond (t:=false) (by simp[Act.eval,Array.replicate]) ?_;simp only[Bool.false_eq_true,if_false];refine wpS_of_wp (wp_skip ?_);cases c₀
 simp_all [bodyPostS,results,Tryz.results149]
theorem tryE_ok (B:Nat)(a:Option Addr)(len cap:Nat)(k:Int)(x:Ev)(next:Int)(w:World)(hr:Rdr B w (.slice a len cap) k)(h0:0<=k)(Z:k<=len)(hl:len<=65536)
  (aH:∀w0,Below w.heap.size w w0->Calls Tryz.prog 104 #[.pointer (some ⟨B,0,none⟩)] w0 fun e w'=>w0.grownBy w' (some B)/\e = .returned (evV x)/\Rdr B w' (.slice a len cap) next) :
  Calls Tryz.prog 128 #[.pointer (some ⟨B,0,none⟩),.func (.func 104) #[] #[]] w fun e w'=>e = .returned (.tuple #[evV x,.nilIface])/\Rdr B w' (.slice a len cap) next/\w.grownBy w' (some B):=by
 have hsf:=sfl;have hmf:∀(fn:Fn) (first cap:Array Value) (w:World),(Instr.makeFunc fn first cap).run Tryz.prog w = .ok (.func fn first cap) w:=fun _ _ _ _=>rfl;have kA:=yL w _ hr.1;have xS:Below w.heap.size w ((w.alloc (me (yw 0 0 0 0 0 0 0 0 ⟨#[]⟩ 0 0 0 0 0).toArray 78)).alloc (me #[.nilIface] 127)):=((Below.refl _ w).alloc yb _).alloc (by simp) _;have HR:=U (gZ hr xS kA);have HX:Hid (Bx ((w.alloc (me (yw 0 0 0 0 0 0 0 0 ⟨#[]⟩ 0 0 0 0 0).toArray 78)).alloc (me #[.nilIface] 127)) w.heap.size (yw 0 0 0 0 0 0 0 0 ⟨#[]⟩ 0 0 0 0 0)):=tryE_box w;have HY:Hid (Bx ((w.alloc (me (yw 0 0 0 0 0 0 0 0 ⟨#[]⟩ 0 0 0 0 0).toArray 78)).alloc (me #[.nilIface] 127)) (w.heap.size+1) [.nilIface]):=tryE_err w;have HZ:Hid (((w.alloc (me (yw 0 0 0 0 0 0 0 0 ⟨#[]⟩ 0 0 0 0 0).toArray 78)).alloc (me #[.nilIface] 127)).heap.size=w.heap.size+2):=by show _ = _;simp
 have HB:=U xS;have HRd:=U aH;clear hr aH xS;obtain⟨xn,⟨ck,cs,ct,cl,cq,ci,cp,cg⟩,id,xj,qty,xk,xi⟩:=x
 go_enter_defers Tryz.func128,Tryz.ntmps128
 go_wp2_with fail;generalize ((w.alloc (me (yw 0 0 0 0 0 0 0 0 ⟨#[]⟩ 0 0 0 0 0).toArray 78)).alloc (me #[.nilIface] 127))=W1 at HR HX HY HZ HB |-;refine(check_ok B k a len cap _ (O HR) h0 Z hl).mono ?_;rintro e w1 ⟨rfl,q,rfl⟩;go_wp2_with fail;refine(O HRd _ (zY (O HB) q)).mono ?_;rintro e w2 ⟨F,rfl,pF⟩;have hz:=O HZ;have hX:Bx w2 w.heap.size (yw 0 0 0 0 0 0 0 0 ⟨#[]⟩ 0 0 0 0 0):=dm (fN (O HX) q) (F.block w.heap.size (by show w.heap.size<W1.heap.size;omega) (by simp;omega));have hY:Bx w2 (w.heap.size+1) [.nilIface]:=dm (fN (O HY) q) (F.block (w.heap.size+1) (by show w.heap.size+1<W1.heap.size;omega) (by simp;omega));have HG:Hid (w.grownBy w2 (some B)):=zr (gp (O HB) B) (zr (ef W1 q _) F);have oR:=U pF;have jW:=U hX;have HYY:=U hY;have z0:=J hX 0 rfl;have f0:=zg hX 0 (by decide);have z1:=J hX 1 rfl;have f1:=zg hX 1 (by decide);have z2:=J hX 2 rfl;have f2:=zg hX 2 (by decide);have z3:=J hX 3 rfl;have f3:=zg hX 3 (by decide);have z4:=J hX 4 rfl;have f4:=zg hX 4 (by decide);have z5:=J hX 5 rfl;have f5:=zg hX 5 (by decide);have z6:=J hX 6 rfl;have f6:=zg hX 6 (by decide);have z7:=J hX 7 rfl;have f7:=zg hX 7 (by decide);have z8:=J hX 8 rfl;have f8:=zg hX 8 (by decide);have z9:=J hX 9 rfl;have f9:=zg hX 9 (by decide);have kI:=J hX 10 rfl;have f10:=zg hX 10 (by decide);have ox:=J hX 11 rfl;have f11:=zg hX 11 (by decide);have oO:=J hX 12 rfl;have f12:=zg hX 12 (by decide);have z13:=J hX 13 rfl;have f13:=zg hX 13 (by decide);have ze:=J hY 0 rfl;have fe:=zg hY 0 (by decide);unfold evV;simp only;clear F pF hX hY hz HX HY HR HB HZ HRd;go_wp2_with fail;rw[set14];have HXF0:=zy (us:=(yw xn ck cs ct cl cq ci cp cg id xj qty xk xi)) (O jW) rfl;have xP:=U (fO (j:=0) (u:=.nilIface) HXF0 (show w.heap.size≠w.heap.size+1 by omega));have oX:=U (eO (j:=0) (u:=.nilIface) (bx_others (us:=(yw xn ck cs ct cl cq ci cp cg id xj qty xk xi)) (O HYY) (show w.heap.size+1≠w.heap.size by omega)) (by decide));have jC:=U (zr (iV (yw xn ck cs ct cl cq ci cp cg id xj qty xk xi) (O HG) (Nat.le_refl w.heap.size)) (yS _ _));have HRF0:=iT (yw xn ck cs ct cl cq ci cp cg id xj qty xk xi) (O oR) (show B≠w.heap.size by omega);have pw:=U (rdr_grown HRF0 (fI _ ⟨w.heap.size+1,0,none⟩ .nilIface) (by show B≠w.heap.size+1;omega));have jC:=U (gr_set1 (j:=0) (u:=.nilIface) (O jC) (show w.heap.size<=w.heap.size+1 by omega));clear z0 f0 z1 f1 z2 f2 z3 f3 z4 f4 z5 f5 z6 f6 z7 f7 z8 f8 z9 f9 kI f10 ox f11 oO f12 z13 f13 ze fe HXF0 HRF0 jW HYY HG oR;generalize (w2.setCells w.heap.size 0 (yw xn ck cs ct cl cq ci cp cg id xj qty xk xi)).setCell ⟨w.heap.size+1,0,none⟩ .nilIface=WF at xP oX jC pw |-;refine leaves_cons (f:=149) (args:=#[.pointer (some ⟨w.heap.size+1,0,none⟩)]) (by simp) (by simp[go_sem]) ?_;refine(catch_idleE ⟨w.heap.size+1,0,none⟩ _).mono ?_;rintro e u' w'' ⟨rfl,rfl,hw⟩;subst hw;obtain⟨d0,d1,d2,d3,d4,d5,d6,d7,d8,d9,pz,aa,ab,af⟩:=yz (O xP);have de:=J (O oX) 0 rfl;simp[Leaves,settle,results,Tryz.results128,go_sem,d0,d1,d2,d3,d4,d5,d6,d7,d8,d9,pz,aa,ab,af,de];exact⟨rfl,O pw,O jC⟩
def zEv:Ev:=⟨0,⟨0,0,0,0,0,0,0,⟨#[]⟩⟩,0,0,0,0,0⟩
theorem tryE_fail (B:Nat)(a:Option Addr)(len cap:Nat)(k c:Int)(w:World)(hr:Rdr B w (.slice a len cap) k)(h0:0<=k)(Z:k<=len)(hl:len<=65536)
  (aH:∀w0,Below w.heap.size w w0->Calls Tryz.prog 104 #[.pointer (some ⟨B,0,none⟩)] w0 fun e w'=>w0.grownBy w' (some B)/\∃p,e = .panicked (ey c p)) :
  Calls Tryz.prog 128 #[.pointer (some ⟨B,0,none⟩),.func (.func 104) #[] #[]] w fun e w'=>(∃p,e = .returned (.tuple #[evV zEv,dM c p]))/\w.grownBy w' (some B):=by
 have hsf:=sfl;have hmf:∀(fn:Fn) (first cap:Array Value) (w:World),(Instr.makeFunc fn first cap).run Tryz.prog w = .ok (.func fn first cap) w:=fun _ _ _ _=>rfl;have kA:=yL w _ hr.1;have xS:Below w.heap.size w ((w.alloc (me (yw 0 0 0 0 0 0 0 0 ⟨#[]⟩ 0 0 0 0 0).toArray 78)).alloc (me #[.nilIface] 127)):=((Below.refl _ w).alloc yb _).alloc (by simp) _;have HR:=U (gZ hr xS kA);have HX:Hid (Bx ((w.alloc (me (yw 0 0 0 0 0 0 0 0 ⟨#[]⟩ 0 0 0 0 0).toArray 78)).alloc (me #[.nilIface] 127)) w.heap.size (yw 0 0 0 0 0 0 0 0 ⟨#[]⟩ 0 0 0 0 0)):=tryE_box w;have HY:Hid (Bx ((w.alloc (me (yw 0 0 0 0 0 0 0 0 ⟨#[]⟩ 0 0 0 0 0).toArray 78)).alloc (me #[.nilIface] 127)) (w.heap.size+1) [.nilIface]):=tryE_err w;have HZ:Hid (((w.alloc (me (yw 0 0 0 0 0 0 0 0 ⟨#[]⟩ 0 0 0 0 0).toArray 78)).alloc (me #[.nilIface] 127)).heap.size=w.heap.size+2):=by show _ = _;simp
 have HB:=U xS;have HRd:=U aH;clear hr aH xS;unfold evV zEv;simp only
 go_enter_defers Tryz.func128,Tryz.ntmps128
 go_wp2_with fail;generalize ((w.alloc (me (yw 0 0 0 0 0 0 0 0 ⟨#[]⟩ 0 0 0 0 0).toArray 78)).alloc (me #[.nilIface] 127))=W1 at HR HX HY HZ HB |-;refine(check_ok B k a len cap _ (O HR) h0 Z hl).mono ?_;rintro e w1 ⟨rfl,q,rfl⟩;go_wp2_with fail;refine(O HRd _ (zY (O HB) q)).mono ?_;rintro e w2 ⟨F,p,rfl⟩;have hz:=O HZ;have hX:Bx w2 w.heap.size (yw 0 0 0 0 0 0 0 0 ⟨#[]⟩ 0 0 0 0 0):=dm (fN (O HX) q) (F.block w.heap.size (by show w.heap.size<W1.heap.size;omega) (by simp;omega));have hY:Bx w2 (w.heap.size+1) [.nilIface]:=dm (fN (O HY) q) (F.block (w.heap.size+1) (by show w.heap.size+1<W1.heap.size;omega) (by simp;omega));have HG:Hid (w.grownBy w2 (some B)):=zr (gp (O HB) B) (zr (ef W1 q _) F);clear F;have xP:=fO (j:=0) (u:=dM c p) hX (show w.heap.size≠w.heap.size+1 by omega);have oX:=eO (j:=0) (u:=dM c p) hY (by decide);have jC:=U (gr_set1 (j:=0) (u:=dM c p) (O HG) (show w.heap.size<=w.heap.size+1 by omega));have hcE:=J hY 0 rfl;have hfE:=zg hY 0 (by decide);clear HX HY HR HB HZ hz;go_wp2_with fail;refine leaves_cons (f:=149) (args:=#[.pointer (some ⟨w.heap.size+1,0,none⟩)]) (by simp) (by simp[go_sem]) ?_;refine(lS ⟨w.heap.size+1,0,none⟩ .nilIface c p [] _ hcE hfE).mono ?_;rintro e u' w'' ⟨rfl,rfl,hw⟩;rw[hw];clear hw;generalize w2.setCell ⟨w.heap.size+1,0,none⟩ (dM c p)=WF at xP oX jC |-;obtain ⟨d0,d1,d2,d3,d4,d5,d6,d7,d8,d9,pz,aa,ab,af⟩:=q0_14 xP rfl;have de:=J oX 0 rfl;simp[Leaves,settle,results,Tryz.results128,go_sem,d0,d1,d2,d3,d4,d5,d6,d7,d8,d9,pz,aa,ab,af,de];exact⟨⟨p,rfl⟩,O jC⟩
theorem tryE_check (B:Nat)(a:Option Addr)(len cap:Nat)(k c:Int)(w:World)(hr:Rdr B w (.slice a len cap) k)
  (hchk:∀w0,Rdr B w0 (.slice a len cap) k->Calls Tryz.prog 89 #[.pointer (some ⟨B,0,none⟩)] w0 fun e w'=>e = .panicked (ey c k)/\∃q,w'=w0.drewN q) :
  Calls Tryz.prog 128 #[.pointer (some ⟨B,0,none⟩),.func (.func 104) #[] #[]] w fun e w'=>(∃p,e = .returned (.tuple #[evV zEv,dM c p]))/\w.grownBy w' (some B):=by
 have hsf:=sfl;have hmf:∀(fn:Fn) (first cap:Array Value) (w:World),(Instr.makeFunc fn first cap).run Tryz.prog w = .ok (.func fn first cap) w:=fun _ _ _ _=>rfl;have kA:=yL w _ hr.1;have xS:Below w.heap.size w ((w.alloc (me (yw 0 0 0 0 0 0 0 0 ⟨#[]⟩ 0 0 0 0 0).toArray 78)).alloc (me #[.nilIface] 127)):=((Below.refl _ w).alloc yb _).alloc (by simp) _;have HR:=U (gZ hr xS kA);have HX:Hid (Bx ((w.alloc (me (yw 0 0 0 0 0 0 0 0 ⟨#[]⟩ 0 0 0 0 0).toArray 78)).alloc (me #[.nilIface] 127)) w.heap.size (yw 0 0 0 0 0 0 0 0 ⟨#[]⟩ 0 0 0 0 0)):=tryE_box w;have HY:Hid (Bx ((w.alloc (me (yw 0 0 0 0 0 0 0 0 ⟨#[]⟩ 0 0 0 0 0).toArray 78)).alloc (me #[.nilIface] 127)) (w.heap.size+1) [.nilIface]):=tryE_err w;have HZ:Hid (((w.alloc (me (yw 0 0 0 0 0 0 0 0 ⟨#[]⟩ 0 0 0 0 0).toArray 78)).alloc (me #[.nilIface] 127)).heap.size=w.heap.size+2):=by show _ = _;simp
 have HB:=U xS;have HCk:=U hchk;clear hr hchk xS;unfold evV zEv;simp only
 go_enter_defers Tryz.func128,Tryz.ntmps128
 go_wp2_with fail;generalize ((w.alloc (me (yw 0 0 0 0 0 0 0 0 ⟨#[]⟩ 0 0 0 0 0).toArray 78)).alloc (me #[.nilIface] 127))=W1 at HR HX HY HZ HB |-;refine(O HCk _ (O HR)).mono ?_;rintro e w2 ⟨rfl,q,pH⟩;have F:(W1.drewN q).grownBy w2 (some B):=by rw[pH];exact yS _ _
 clear pH;have hz:=O HZ;have hX:Bx w2 w.heap.size (yw 0 0 0 0 0 0 0 0 ⟨#[]⟩ 0 0 0 0 0):=dm (fN (O HX) q) (F.block w.heap.size (by show w.heap.size<W1.heap.size;omega) (by simp;omega));have hY:Bx w2 (w.heap.size+1) [.nilIface]:=dm (fN (O HY) q) (F.block (w.heap.size+1) (by show w.heap.size+1<W1.heap.size;omega) (by simp;omega));have HG:Hid (w.grownBy w2 (some B)):=zr (gp (O HB) B) (zr (ef W1 q _) F);clear F;have xP:=fO (j:=0) (u:=dM c k) hX (show w.heap.size≠w.heap.size+1 by omega);have oX:=eO (j:=0) (u:=dM c k) hY (by decide);have jC:=U (gr_set1 (j:=0) (u:=dM c k) (O HG) (show w.heap.size<=w.heap.size+1 by omega));have hcE:=J hY 0 rfl;have hfE:=zg hY 0 (by decide);clear HX HY HR HB HZ hz;go_wp2_with fail;refine leaves_cons (f:=149) (args:=#[.pointer (some ⟨w.heap.size+1,0,none⟩)]) (by simp) (by simp[go_sem]) ?_;refine(lS ⟨w.heap.size+1,0,none⟩ .nilIface c k [] _ hcE hfE).mono ?_;rintro e u' w'' ⟨rfl,rfl,hw⟩;rw[hw];clear hw;generalize w2.setCell ⟨w.heap.size+1,0,none⟩ (dM c k)=WF at xP oX jC |-;obtain ⟨d0,d1,d2,d3,d4,d5,d6,d7,d8,d9,pz,aa,ab,af⟩:=q0_14 xP rfl;have de:=J oX 0 rfl;simp[Leaves,settle,results,Tryz.results128,go_sem,d0,d1,d2,d3,d4,d5,d6,d7,d8,d9,pz,aa,ab,af,de];exact⟨⟨k,rfl⟩,O jC⟩
def frA (l:List Int)(k:Nat)(s:Int):Option (Int × Nat × Nat × Int):=
 if l.length<=k then none else if l.getD k 0≠71/\l.getD k 0≠69 then none else
 match getU l (k+1) with
 | none=>none
 | some (u,n)=>if unz u<0\/8192<unz u\/(l.length:Int)-n<unz u+2 then none else
  if l.getD (n+(unz u).toNat) 0*256+l.getD (n+(unz u).toNat+1) 0≠sumL ((l.drop k).take (n+(unz u).toNat-k)) s then none else
  some (l.getD k 0,n,n+(unz u).toNat,sumL ((l.drop k).take (n+(unz u).toNat-k)) s)
theorem frA_end {l:List Int}{k:Nat}{s:Int}(h:l.length<=k):frA l k s=none:=by unfold frA;rw[if_pos h]
theorem frA_mark {l:List Int}{k:Nat}{s:Int}(h:l.getD k 0≠71/\l.getD k 0≠69):frA l k s=none:=by
 unfold frA;rw[if_pos h];simp
theorem frA_num {l:List Int}{k:Nat}{s:Int}(h:getU l (k+1)=none):frA l k s=none:=by
 unfold frA;rw[h];simp
theorem frA_bad {l:List Int}{k:Nat}{s:Int}{u n:Nat}(h:getU l (k+1)=some (u,n))(K:unz u<0\/8192<unz u\/(l.length:Int)-n<unz u+2):frA l k s=none:=by
 unfold frA;rw[h];simp only;rw[if_pos K];simp
theorem frA_sum {l:List Int}{k:Nat}{s:Int}{u n c:Nat}(h:getU l (k+1)=some (u,n))(hu:unz u=c)(K:l.getD (n+c) 0*256+l.getD (n+c+1) 0≠sumL ((l.drop k).take (n+c-k)) s):frA l k s=none:=by
 unfold frA;rw[h];simp only[hu,Int.toNat_natCast];rw[if_pos K];simp
theorem frA_yes {l:List Int}{k:Nat}{s:Int}{u n c:Nat}(h0:k<l.length)(Z:l.getD k 0=71\/l.getD k 0=69)(h:getU l (k+1)=some (u,n))(hu:unz u=c)(hc:c<=8192)(hl:n+c+2<=l.length)
  (K:l.getD (n+c) 0*256+l.getD (n+c+1) 0=sumL ((l.drop k).take (n+c-k)) s):frA l k s=some (l.getD k 0,n,n+c,sumL ((l.drop k).take (n+c-k)) s):=by
 unfold frA;rw[if_neg (by omega),if_neg (by omega),h];simp only[hu,Int.toNat_natCast];rw[if_neg (by omega),if_neg (by omega)]
theorem frA_some {l:List Int}{k:Nat}{s:Int}{m:Int}{n t:Nat}{s2:Int}(h:frA l k s=some (m,n,t,s2)):k<n/\n<=t/\t+2<=l.length/\t-n<=8192/\(m=71\/m=69)/\s2=sumL ((l.drop k).take (t-k)) s:=by
 unfold frA at h;split at h
 ·cases h
 split at h
 ·cases h
 rename_i Z Q;cases F:getU l (k+1) with
 | none=>rw[F] at h;cases h
 | some x =>
  obtain⟨u,p⟩:=x;rw[F] at h;simp only at h;split at h
  ·cases h
  split at h
  ·cases h
  rename_i I h4;have uJ:=io 10 0 0 l (k+1) u p F;simp only[Option.some.injEq,Prod.mk.injEq] at h;obtain⟨rfl,rfl,rfl,rfl⟩:=h;refine⟨by omega,by omega,by omega,by omega,by omega,rfl⟩
def sameE (a b:Ev):Bool:=(a.kind==b.kind)&&((a.id==b.id)&&((a.other==b.other)&&((a.qty==b.qty)&&((a.price==b.price)&&((a.reason==b.reason)&&((a.cmd.k==b.cmd.k)&&((a.cmd.s==b.cmd.s)&&((a.cmd.t==b.cmd.t)&&((a.cmd.l==b.cmd.l)&&((a.cmd.q==b.cmd.q)&&((a.cmd.i==b.cmd.i)&&((fbit a.cmd.p==fbit b.cmd.p)&&decide (a.cmd.g.toList=b.cmd.g.toList)))))))))))))
def evL (e:Ev):List Int:=e.kind::(shF e.kind).flatMap (wrF e)
theorem textL_le (s:ByteArray):(dZ s).length<=23:=by
 have Q:=gL s;have I:=zH (zz (cutB s).size) (dy _ (by omega) (by omega));rw[dZ,yQ,bl_len];omega
theorem wrF_len (e:Ev)(he:e.fit)(o:Nat):0<(wrF e o).length/\(wrF e o).length<=23:=by
 unfold wrF;split
 ·rw[gm];omega
 ·split
  ·exact⟨(textL_len _).1,textL_le _⟩
  ·exact⟨putU_pos _,yO (zH _ (dy _ (he.n o).1 (he.n o).2)) (by omega)⟩
theorem flat_le (e:Ev)(he:e.fit):∀os:List Nat,(os.flatMap (wrF e)).length<=23*os.length
 | []=>by simp
 | o::os=>by
  have:=flat_le e he os;have:=(wrF_len e he o).2;rw[List.flatMap_cons,yQ,List.length_cons];omega
theorem shF_len (k:Int):(shF k).length<=9:=by
 unfold shF
 repeat' split
 all_goals simp
def evR (l:List Int)(at_:Int):Ev × Int × Int:=
 if 65536<l.length then(zEv,0,2) else if at_ < 0\/(l.length:Int)<at_ then(zEv,0,5)
 else match evA l at_.toNat with|some (x,n)=>(x,(n:Int),0)|none=>(zEv,0,3)
def tupE (x:Ev)(y:Int × Int):Value:=.tuple #[evV x,H y.1,H y.2]
theorem evR_long {l:List Int}{k:Int}(h:65536<l.length):evR l k=(zEv,0,2):=by unfold evR;rw[if_pos h]
theorem evR_out {l:List Int}{k:Int}(h:¬ 65536<l.length)(Z:k<0\/(l.length:Int)<k):evR l k=(zEv,0,5):=by unfold evR;rw[if_neg h,if_pos Z]
theorem evR_some {l:List Int}{k:Nat}{x:Ev}{n:Nat}(h:¬ 65536<l.length)(Z:k<=l.length)(F:evA l k=some (x,n)):evR l k=(x,(n:Int),0):=by
 unfold evR;rw[if_neg h,if_neg (by omega),Int.toNat_natCast,F]
theorem evR_none {l:List Int}{k:Nat}(h:¬ 65536<l.length)(Z:k<=l.length)(F:evA l k=none):evR l k=(zEv,0,3):=by
 unfold evR;rw[if_neg h,if_neg (by omega),Int.toNat_natCast,F]
theorem rdE_box (w:World)(v:Value)(at_:Int):Bx ((w.alloc (me (yw 0 0 0 0 0 0 0 0 ⟨#[]⟩ 0 0 0 0 0).toArray 78)).alloc (me #[v,H at_] 125)) w.heap.size (yw 0 0 0 0 0 0 0 0 ⟨#[]⟩ 0 0 0 0 0)/\Rdr (w.heap.size+1) ((w.alloc (me (yw 0 0 0 0 0 0 0 0 ⟨#[]⟩ 0 0 0 0 0).toArray 78)).alloc (me #[v,H at_] 125)) v at_/\yp w ((w.alloc (me (yw 0 0 0 0 0 0 0 0 ⟨#[]⟩ 0 0 0 0 0).toArray 78)).alloc (me #[v,H at_] 125))/\((w.alloc (me (yw 0 0 0 0 0 0 0 0 ⟨#[]⟩ 0 0 0 0 0).toArray 78)).alloc (me #[v,H at_] 125)).heap.size=w.heap.size+2:=by
 have hs:(w.alloc (me (yw 0 0 0 0 0 0 0 0 ⟨#[]⟩ 0 0 0 0 0).toArray 78)).heap.size=w.heap.size+1:=by simp
 refine⟨zl (zo w (yw 0 0 0 0 0 0 0 0 ⟨#[]⟩ 0 0 0 0 0) 78) ((Below.refl (w.heap.size+1) _).alloc (by simp) _) (by omega),?_,((Below.refl _ w).alloc yb _).alloc (by simp) _,by simp⟩;have h:=rdr_new (w.alloc (me (yw 0 0 0 0 0 0 0 0 ⟨#[]⟩ 0 0 0 0 0).toArray 78)) v at_;rwa[hs] at h
theorem readE_fine (v:Value)(len:Nat)(a:Option Addr)(cap:Nat)(hv:v = .slice a len cap)(at_:Int)(x:Ev)(next:Int)(w:World)
  (htry:∀w0,w0=((w.alloc (me (yw 0 0 0 0 0 0 0 0 ⟨#[]⟩ 0 0 0 0 0).toArray 78)).alloc (me #[v,H at_] 125))->Calls Tryz.prog 128 #[.pointer (some ⟨w.heap.size+1,0,none⟩),.func (.func 104) #[] #[]] w0 fun e w'=>e = .returned (.tuple #[evV x,.nilIface])/\Rdr (w.heap.size+1) w' v next/\w0.grownBy w' (some (w.heap.size+1))) :
  Calls Tryz.prog 103 #[v,H at_,.func (.func 104) #[] #[]] w fun e w'=>e = .returned (tupE x (next,0))/\yp w w':=by
 have hsf:=sfl;obtain⟨hX,hR,hB,hZ⟩:=rdE_box w v at_;have HT:=U (htry _ rfl);subst hv;have HX:=U hX;have HB:=U hB;have HZ:=U hZ;clear htry hX hR hB hZ;obtain⟨xn,⟨ck,cs,ct,cl,cq,ci,cp,cg⟩,id,xj,qty,xk,xi⟩:=x;go_enter Tryz.func103,Tryz.ntmps103;go_wp2_with fail;generalize ((w.alloc (me (yw 0 0 0 0 0 0 0 0 ⟨#[]⟩ 0 0 0 0 0).toArray 78)).alloc (me #[.slice a len cap,H at_] 125))=W0 at HT HX HB HZ |-;refine(O HT).mono ?_;rintro e W1 ⟨rfl,hr,F⟩;have hz:=O HZ;have ui:=U ((O HB).trans (gr_below F (show w.heap.size<=w.heap.size+1 by omega) (by omega)));have hX1:=dm (O HX) (F.block w.heap.size (by omega) (by simp));have xX:w.heap.size+2<=W1.heap.size:=by have:=F.size;omega
 have jc:=mc W1 (me (yw xn ck cs ct cl cq ci cp cg id xj qty xk xi).toArray 78);have kX:Hid (Bx (W1.alloc (me (yw xn ck cs ct cl cq ci cp cg id xj qty xk xi).toArray 78)) W1.heap.size (yw xn ck cs ct cl cq ci cp cg id xj qty xk xi)):=zo W1 (yw xn ck cs ct cl cq ci cp cg id xj qty xk xi) 78;have xR:=U (zl hX1 jc (by omega));have pF:=gZ hr jc (by omega);have xz:=U ((O ui).trans (jc.mono (by omega)));unfold evV;simp only;clear F HX HB HZ hz hX1 jc ui hr HT;go_wp2_with fail;generalize (W1.alloc (me (yw xn ck cs ct cl cq ci cp cg id xj qty xk xi).toArray 78))=W2 at kX xR pF xz |-;obtain⟨c1,c2,c3⟩:=pF;obtain⟨x0,x1,x2,x3,x4,x5,x6,x7,x8,x9,cY,x11,x12,x13⟩:=yz (O kX);have z0:=J (O xR) 0 rfl;have fz0:=zg (O xR) 0 (by decide);have z1:=J (O xR) 1 rfl;have fz1:=zg (O xR) 1 (by decide);have z2:=J (O xR) 2 rfl;have fz2:=zg (O xR) 2 (by decide);have z3:=J (O xR) 3 rfl;have fz3:=zg (O xR) 3 (by decide);have z4:=J (O xR) 4 rfl;have fz4:=zg (O xR) 4 (by decide);have z5:=J (O xR) 5 rfl;have fz5:=zg (O xR) 5 (by decide);have z6:=J (O xR) 6 rfl;have fz6:=zg (O xR) 6 (by decide);have z7:=J (O xR) 7 rfl;have fz7:=zg (O xR) 7 (by decide);have z8:=J (O xR) 8 rfl;have fz8:=zg (O xR) 8 (by decide);have z9:=J (O xR) 9 rfl;have fz9:=zg (O xR) 9 (by decide);have kI:=J (O xR) 10 rfl;have fz10:=zg (O xR) 10 (by decide);have ox:=J (O xR) 11 rfl;have fz11:=zg (O xR) 11 (by decide);have oO:=J (O xR) 12 rfl;have fz12:=zg (O xR) 12 (by decide);have z13:=J (O xR) 13 rfl;have fz13:=zg (O xR) 13 (by decide);have xP:=U (zy (us:=(yw xn ck cs ct cl cq ci cp cg id xj qty xk xi)) (O xR) rfl);have jB:=U (zj w.heap.size yb (yw xn ck cs ct cl cq ci cp cg id xj qty xk xi) 0 W2 (O xz));clear kX xR xz
 go_region_with (fail)
 all_goals try go_wp2_with fail
 all_goals
  rw[set14];generalize (W2.setCells w.heap.size 0 (yw xn ck cs ct cl cq ci cp cg id xj qty xk xi))=WF at xP jB |-;obtain⟨d0,d1,d2,d3,d4,d5,d6,d7,d8,d9,pz,aa,ab,af⟩:=yz (dK (O xP));refine bodyPost_ret (v:=tupE ⟨xn,⟨ck,cs,ct,cl,cq,ci,cp,cg⟩,id,xj,qty,xk,xi⟩ (next,0)) ?_ rfl ⟨rfl,(O jB).drew⟩;simp[results,Tryz.f103,go_sem,d0,d1,d2,d3,d4,d5,d6,d7,d8,d9,pz,aa,ab,af,tupE,evV]
end Go.Proofs.YtkofhemdefffpaaGreatDoor
