/-.-/
import Derived.Test.YtbghmldggahjiaaGreatDoorUj05
import Derived.Maps.AppendAt
set_option linter.unusedVariables false
set_option maxHeartbeats 6400000
set_option maxRecDepth 100000
namespace Go.Proofs.YtbghmldggahjiaaGreatDoor
open Go.RowKit
theorem isKind_any (c:Int)(a:Option Addr)(n cap:Nat)(w:World):Calls Tryz.prog 107 #[.agg #[H c,.slice a n cap]] w fun e w'=>e = .returned (.bool (decide (0<n)))/\yn w w':=by
 go_enter Tryz.func107,Tryz.ntmps107;go_wp2_with fail;go_ret;exact⟨rfl,by go_grown⟩
theorem gk {w W:World}(h:yn w W)(R:Nat):w.grownBy W (some R):=⟨h.os,h.tape,h.output,h.size,fun i hi _=>h.block i hi⟩
theorem gr_bel {w W V:World}{R:Nat}(h:w.grownBy W (some R))(E:yn W V):w.grownBy V (some R):=zC h (gk E R)
theorem ff_gr {yl o R:Nat}{W W':World}{c:Fc}(h:FF W yl o c)(A:W.grownBy W' (some R))(hR:R<yl):FF W' yl o c:=by
 unfold FF at h |-;split
 ·rwa[if_pos ‹_›] at h
 ·rw[if_neg ‹_›] at h;split
  ·rwa[if_pos ‹_›] at h
  ·rw[if_neg ‹_›] at h;obtain⟨b,D,E,h3,h4⟩:=h;exact⟨b,D,E,yJ h3 A.size,A.cell h4 (by simp;omega)⟩
theorem event_any (wb:World)(R:Nat)(v:Value)(l:List Int)(k:Nat)(w:World)(hs:RSr wb R v l k w) :
  Calls Tryz.prog 71 #[.pointer (some ⟨R,0,none⟩)] w fun e w'=>EvEnd R v w (evA l k) e w':=by
 have hsf:=sfl;have hsfn:=sfn;have hRw:=hs.lt;have xD:(l.length:Int)<=65536:=by have:=hs.ll;omega
 have pg:=hs.kk;have ud:Hid (yn w (w.alloc (J (yv 0 0 0 0 0 0 0 0 ⟨#[]⟩ 0 0 0 0 0).toArray 89))):=lT _ _;have uh:=Q (zj w (yv 0 0 0 0 0 0 0 0 ⟨#[]⟩ 0 0 0 0 0) 89);have pF:=Q (hs.below (Z ud) hRw);have HZ1:Hid ((w.alloc (J (yv 0 0 0 0 0 0 0 0 ⟨#[]⟩ 0 0 0 0 0).toArray 89)).heap.size=w.heap.size+1):=by show _ = _;simp
 have HS:=Q hs;clear hs;rw[show(yv 0 0 0 0 0 0 0 0 ⟨#[]⟩ 0 0 0 0 0).toArray=(yv 0 0 0 0 0 0 0 0 ⟨#[]⟩ 0 0 0 0 0).toArray from rfl] at uh;obtain⟨a,cap,hv⟩:=eb (Z HS).rd;go_enter Tryz.func71,Tryz.ntmps71;go_wp2_with fail;generalize (w.alloc (J (yv 0 0 0 0 0 0 0 0 ⟨#[]⟩ 0 0 0 0 0).toArray 89))=W1 at ud uh pF HZ1 |-
 by_cases uN:l.length<=k
 ·have HE:=Q (evA_end uN);have HR:=Q (hv ▸ (Z pF).r);refine(iH R 1 k a l.length cap _ (Z HR) (by omega) (by omega) (by omega) (by omega) (by omega)).mono ?_;rintro e w1 ⟨rfl,q,rfl⟩;go_wp2_with fail;exact⟨rfl,evEnd_fail (zC (gk (Z ud) R) (dZ _ _ _)) (Z HE) _⟩
 clear hv
 obtain⟨b,off,qP,rfl,oP,xC,xp⟩:∃b off qP,v = .slice (some ⟨b,off,none⟩) l.length qP/\b<wb.heap.size/\l.length<=qP/\W1.cell? ⟨b,off+k,none⟩=some (.int .u8 (l.getD k 0)):=by
  obtain⟨a',c',hv',_,hc⟩:=(Z pF).rd;obtain⟨b,off,rfl,xp⟩:=hc (by intro h;rw[h] at uN;simp at uN);have xR:=yK wb _ (xp 0 (by omega));exact⟨b,off,c',hv',xR,(Z pF).cap _ _ _ hv',((Z pF).bel.cell (p:=⟨b,off+k,none⟩) xR).trans (xp k (by omega))⟩
 have HR:=Q (Z pF).r;refine(take_ok R 1 k b off l.length qP _ (Z HR) (by omega) (by omega) xC (by omega)).mono ?_;rintro e w2 ⟨rfl,q,rfl⟩;have hgs:=zC (eF W1 ⟨R,1,none⟩ (H ((k+1:Nat):Int))) (dZ _ q _);have ua:=Q (zC (gk (Z ud) R) hgs);have vL:=Q ((Z pF).go hgs (((Z pF).r.step ((k+1:Nat):Int)).drewN q) (by omega));have xF:=Q (zQ (Z uh) (hgs.block w.heap.size (by rw[Z HZ1];omega) (by simp;omega)));have jN:Hid (w.heap.size<((W1.setCell ⟨R,1,none⟩ (H ((k+1:Nat):Int))).drewN q).heap.size):=yJ (by rw[Z HZ1];omega) hgs.size;have pX:=hgs.cell xp (by have:=(Z pF).le;simp;omega);have hbt:=eQ (Z HS).bb k;have HSh:=Q (fun(h:shF (l.getD k 0) = [])=>evA_no (by omega) h);have HYe:=Q (fun(h:shF (l.getD k 0) ≠ [])=>evA_yes (by omega) h);clear hgs pF uh ud HR xp HZ1 HS;generalize (W1.setCell ⟨R,1,none⟩ (H ((k+1:Nat):Int))).drewN q=W2 at ua vL xF jN pX |-;generalize l.getD k 0=kd at *;obtain⟨oB,hk1⟩:=hbt;go_wp2_with fail;refine(shape_any kd W2).mono ?_;rintro e W3 ⟨fv,fs,rfl,hof,hff,xN⟩;have uC:=Z jN;have kW:=(ffs_get hff).1;have bd:=Q hof;have HF3:=Q hff;have hS3:=(Z vL).below xN (Z vL).lt;have aJ:=zf (Z xF) xN uC;have hG3:=gr_bel (Z ua) xN;have hz3:=yJ uC xN.size;obtain⟨fa,bY,rfl,hfl,xS⟩:=hof;obtain⟨xz,xw⟩:=lY W3 [H (shC kd),.slice fa fs.length bY] 176;have HS4:=Q (hS3.below xz hS3.lt);have HX4r:=Q (zf aJ xz hz3);have uP:=Q (gr_bel hG3 xz);have cQ:=Q (fX (Z bd) xz ya);have HF4:=Q (fun(o:Nat) (c:Fc) (h:FF W3 W2.heap.size o c)=>ff_below h xz ya);have HZ4:Hid (W3.heap.size<(W3.alloc (J #[H (shC kd),.slice fa fs.length bY] 176)).heap.size):=by show _ < _;simp
 rw[show[H (shC kd),.slice fa fs.length bY].toArray = #[H (shC kd),.slice fa fs.length bY] from rfl] at xw;clear hff xN hS3 aJ hG3 xS xz vL xF ua bd;go_wp2_with fail;generalize (W3.alloc (J #[H (shC kd),.slice fa fs.length bY] 176))=W4 at xw HS4 HX4r uP cQ HF4 HZ4 |-;refine(isKind_any (shC kd) fa fs.length bY W4).mono ?_;rintro e W5 ⟨rfl,xX⟩;have hz4:=Z HZ4;have HS5:=Q ((Z HS4).below xX (Z HS4).lt);have HX5r:=Q (zf (Z HX4r) xX (by omega));have uK:=Q (zf (Z xw) xX hz4);have uQ:=Q (gr_bel (Z uP) xX);have HO5:=Q (fX (Z cQ) xX ya);have HF5:=Q (fun(o:Nat) (c:Fc) (h:FF W3 W2.heap.size o c)=>ff_below (Z HF4 o c h) xX ya);have HZ5:=Q (yJ hz4 xX.size);clear xX HS4 HX4r xw uP cQ HF4 HZ4 hz4
 by_cases xy:fs.length=0
 ·have HE:=Q (Z HSh (List.length_eq_zero_iff.1 (kW.trans xy)));have HR:=Q (Z HS5).r;rw[xy];go_wp2_with fail;refine(fw R 3 _ _ _ (Z HR)).mono ?_;rintro e w6 ⟨rfl,rfl⟩;go_wp2_with fail;exact⟨rfl,evEnd_fail (Z uQ) (Z HE) _⟩
 have ot:decide (0<fs.length)=true:=by simpa using Nat.pos_of_ne_zero xy
 have c50:=Y (Z uK) 0 rfl;rw[ot];have HYE:=Q (Z HYe (by intro h;rw[h] at kW;exact xy kW.symm));have vN:=lT W5 (J (yv kd (shC kd) 0 0 0 0 0 0 ⟨#[]⟩ 0 0 0 0 0).toArray 89);have vE:Hid (Bx (W5.alloc (J (yv kd (shC kd) 0 0 0 0 0 0 ⟨#[]⟩ 0 0 0 0 0).toArray 89)) W5.heap.size (ev0 kd).vs):=zj W5 (ev0 kd).vs 89;have HS6:=Q ((Z HS5).below vN (Z HS5).lt);have vj:=Q (gk vN R);have c51:=Y (zf (Z uK) vN (Z HZ5)) 1 rfl;clear vN ot;go_wp2_with fail;generalize (W5.alloc (J (yv kd (shC kd) 0 0 0 0 0 0 ⟨#[]⟩ 0 0 0 0 0).toArray 89))=W6 at vE HS6 vj c51 |-;go_loopw [28] (fun iv wr=>∃(i n:Nat) (x:Ev),iv=H i/\i<=fs.length/\W5.grownBy wr (some R)/\RSr wb R (.slice (some ⟨b,off,none⟩) l.length qP) l n wr/\Bx wr W5.heap.size x.vs/\rdEs ((shF kd).drop i) x l n=evA l k) (fun iv _=>fs.length-(intOf iv).toNat)
 case atStart=>exact⟨0,k+1,ev0 kd,rfl,Nat.zero_le _,Z vj,Z HS6,Z vE,(Z HYE).symm⟩
 case round =>
  obtain⟨i,n,x,rfl,hi,M,hs,hx,xU⟩:=hrel;have HG:=Q M;have HS:=Q hs;have HX:=Q hx;have uU:=Q xU;clear M hs hx xU
  by_cases xH:i<fs.length
  ·obtain⟨c,hic⟩:∃c,fs[i]? = some c:=⟨_,yH xH⟩;obtain⟨o,kO,bB⟩:=(ffs_get (Z HF3)).2 i c hic;have hfo5:=Z HF5 o c bB;obtain⟨a7,c7,e7,_,xS⟩:=Z HO5;simp only[Value.slice.injEq] at e7;obtain⟨rfl,_,rfl⟩:=e7;obtain⟨g,rfl,hg0,hg1,vz,_⟩:=xS (by intro h;rw[h] at xH;simp at xH);have hR5:=(Z HS5).lt;have hRF:R<W2.heap.size:=Nat.lt_trans hRw (Z jN);have vY:g≠R:=by omega
   have q0:=(Z HG).cell (vz i c hic 0 _ rfl) (by simp;omega);have q1:=(Z HG).cell (vz i c hic 1 _ rfl) (by simp;omega);simp only[Nat.zero_add,Nat.add_zero] at q0 q1;have hen:=fun args V=>(field_enter _ o c W5 hfo5 args V).1;have hEV:=shF_evO kd o (yO kO);have uq:(i:Int)<fs.length:=by omega
   have hd:=xc (show i<(shF kd).length by rw[kW];exact xH);rw[(yG.1 kO).2] at hd;obtain⟨n1,n2,cl⟩:=c;have jB:=lT wr (J #[.func (.func n1) #[] cl,.func (.func n2) #[] cl] 181)
   have hEw:W5.heap.size<wr.heap.size:=by
    obtain⟨y,hy⟩:=Option.isSome_iff_exists.1 ((Z HX).t 0 (by rw[Ev.len];decide)).1;exact yK wr _ hy
   have HCT:=Q (readField_any wb w W2.heap.size R W5.heap.size o ⟨n1,n2,cl⟩ _ l n x.vs _ ((Z HS).below jB (Z HS).lt) (zf (Z HX) jB hEw) hR5 (Ev.len x) hEV (ff_below (ff_gr hfo5 (Z HG) hRF) jB ya) hRF);have HGA:=Q (gr_bel (Z HG) jB);have HD:=Q hd;have qX:=Q hEV;clear vz hic kO bB hfo5 hd jB hEV;simp only at hen HCT;go_wp2_with fail;refine(Z HCT).mono ?_;rintro e w7 hFd;cases M:rdF o l n with
   | none =>
    obtain⟨p,rfl⟩:=hFd.2.2 M;have HE:=Q (((Z uU).symm.trans (by rw[Z HD])).trans (gK (os:=(shF kd).drop (i+1)) (e:=x) M));have qY:=Q (zC (Z uQ) (gr2_on (Z HGA) hFd.1 ya));clear hFd M;go_wp2_with fail;exact⟨rfl,evEnd_fail (Z qY) (Z HE) _⟩
   | some y =>
    obtain⟨y,m⟩:=y;obtain⟨rfl,hs7,hx7⟩:=hFd.2.1 y m M;have HE:=Q (((Z uU).symm.trans (by rw[Z HD])).trans (gw (os:=(shF kd).drop (i+1)) (e:=x) M));have qY:=Q (gr2_on (Z HGA) hFd.1 ya);rw[evs_put x (Z qX) (rdF_ty M)] at hx7;have HS7:=Q hs7;have pG:=Q hx7;clear hFd M hs7 hx7;go_wp2_with fail;go_roundw
    case rel=>exact⟨i+1,m,x.put o y,by go_num,by omega,Z qY,Z HS7,Z pG,(Z HE).symm⟩
    case measure=>simp[intOf];omega
  ·have jd:i=fs.length:=by omega
   have HE:Hid (evA l k=some (x,n)):=by
    show evA l k = _;rw[<- Z uU,List.drop_eq_nil_of_le (by omega)];rfl
   have cJ:=Z HX;obtain⟨xl,⟨ck,cs,ct,cl,cq,ci,cp,cg⟩,id,xh,qty,xi,xg⟩:=x;have d0:=Y cJ 0 rfl;have d1:=Y cJ 1 rfl;have d2:=Y cJ 2 rfl;have d3:=Y cJ 3 rfl;have d4:=Y cJ 4 rfl;have d5:=Y cJ 5 rfl;have d6:=Y cJ 6 rfl;have d7:=Y cJ 7 rfl;have d8:=Y cJ 8 rfl;have d9:=Y cJ 9 rfl;have jq:=Y cJ 10 rfl;have jG:=Y cJ 11 rfl;have jH:=Y cJ 12 rfl;have jI:=Y cJ 13 rfl;have ke:=Q (zQ (Z HX5r) ((Z HG).block w.heap.size (Nat.lt_trans hz3 (Z HZ5)) (by simp;omega)));have HRN:=Q (Z HS).r;have HGW:=Q (zC (Z uQ) (Z HG));clear cJ uU;have z0:=Y (Z ke) 0 rfl;have f0:=zc (Z ke) 0 (by decide);have z1:=Y (Z ke) 1 rfl;have f1:=zc (Z ke) 1 (by decide);have z2:=Y (Z ke) 2 rfl;have f2:=zc (Z ke) 2 (by decide);have z3:=Y (Z ke) 3 rfl;have f3:=zc (Z ke) 3 (by decide);have z4:=Y (Z ke) 4 rfl;have f4:=zc (Z ke) 4 (by decide);have z5:=Y (Z ke) 5 rfl;have f5:=zc (Z ke) 5 (by decide);have z6:=Y (Z ke) 6 rfl;have f6:=zc (Z ke) 6 (by decide);have z7:=Y (Z ke) 7 rfl;have f7:=zc (Z ke) 7 (by decide);have z8:=Y (Z ke) 8 rfl;have f8:=zc (Z ke) 8 (by decide);have z9:=Y (Z ke) 9 rfl;have f9:=zc (Z ke) 9 (by decide);have jv:=Y (Z ke) 10 rfl;have f10:=zc (Z ke) 10 (by decide);have jL:=Y (Z ke) 11 rfl;have cU:=zc (Z ke) 11 (by decide);have jZ:=Y (Z ke) 12 rfl;have f12:=zc (Z ke) 12 (by decide);have pA:=Y (Z ke) 13 rfl;have f13:=zc (Z ke) 13 (by decide);clear uK HX5r HO5 HF5 c50 c51 vE HS6 vj pX HS5 HX;go_wp2_with fail;rw[set14];have xt:=Q (zk (us:=(yv xl ck cs ct cl cq ci cp cg id xh qty xi xg)) (Z ke) rfl);have HQ:=Q (evEnd_done (iR (yv xl ck cs ct cl cq ci cp cg id xh qty xi xg) (Z HGW) (Nat.le_refl w.heap.size)) (Z HE) (iP (yv xl ck cs ct cl cq ci cp cg id xh qty xi xg) (Z HRN) (by omega)));clear z0 f0 z1 f1 z2 f2 z3 f3 z4 f4 z5 f5 z6 f6 z7 f7 z8 f8 z9 f9 jv f10 jL cU jZ f12 pA f13 d0 d1 d2 d3 d4 d5 d6 d7 d8 d9 jq jG jH jI ke;generalize (wr.setCells w.heap.size 0 (yv xl ck cs ct cl cq ci cp cg id xh qty xi xg))=WF at xt HQ |-;obtain⟨d0,d1,d2,d3,d4,d5,d6,d7,d8,d9,jq,jG,jH,jI⟩:=yy (Z xt);refine bodyPost_ret (v:=evV ⟨xl,⟨ck,cs,ct,cl,cq,ci,cp,cg⟩,id,xh,qty,xi,xg⟩) ?_ rfl (Z HQ);simp[results,Tryz.f71,go_sem,d0,d1,d2,d3,d4,d5,d6,d7,d8,d9,jq,jG,jH,jI,evV]
abbrev BRow (W:World)(B:Nat)(v:Value)(l:List Int):Prop:=W.ownsRow B 5 1 v l.length (l.map (Value.int .u8))
theorem gp {W W':World}{B:Nat}{v:Value}{l:List Int}(h:BRow W B v l)(A:yn W W'):BRow W' B v l:=
 World.ownsRow.kept h (row:=none) ⟨A.os,A.tape,A.output,A.size,fun k X _=>A.block k X⟩ (by cases v.ownBlock <;> simp)
theorem gu {W:World}{B:Nat}{v:Value}{l m:List Int}(h:W.ownsRow B 5 1 v (l.length+m.length) (l.map (Value.int .u8)++m.map (Value.int .u8))):BRow W B v (l++m):=by
 show W.ownsRow _ _ _ _ (l++m).length _;rw[yP,List.map_append];exact h

end Go.Proofs.YtbghmldggahjiaaGreatDoor
namespace Go.Proofs.YtbghmldggahjiaaGreatDoor
open Go
end Go.Proofs.YtbghmldggahjiaaGreatDoor
namespace Go.Proofs.YtbghmldggahjiaaGreatDoor
open Go.RowKit

theorem shF_ne (k:Int):shF k ≠ [] ↔ 1<=k/\k<=9:=by
 unfold shF
 repeat' split
 all_goals simp
 all_goals omega

def plainC (c:Cm):Bool:=(c.k==0)&&((c.s==0)&&((c.t==0)&&((c.l==0)&&((c.q==0)&&((c.i==0)&&((fbit c.p==0)&&decide (c.g.toList = [])))))))
def fldK (k:Int):List Bool:=if k=1 then[true,false,false,false,false] else if k=2 then[false,false,false,false,true] else if k=3 then[true,true,true,true,false] else if k=4\/k=5\/k=6\/k=7\/k=9 then[true,false,true,false,false] else if k=8 then[false,false,true,false,false] else[]
def eM (e:Ev):List Int:=[e.id,e.other,e.qty,e.price,e.reason]
def eO (fs:List Bool)(ns:List Int):Bool:=(List.range 5).all fun i=>fs.getD i false||(ns.getD i 0==0)
def okE (e:Ev):Bool:=if fldK e.kind = [] then false else if eO (fldK e.kind) (eM e)=false then false else
 if e.kind=1 then(e.cmd.k==1)&&((e.cmd.i==0)&&decide (e.cmd.g.size<=13)) else if e.kind=2 then decide (e.cmd.g.size<=13) else plainC e.cmd
theorem iz:fbit 0=0:=by
 have h:nanB 0=false:=by decide +kernel
 unfold fbit;rw[h];rfl
def sumL (l:List Int)(vS:Int):Int:=l.foldl (fun s c=>(31*s+c+1) % 65521) vS
theorem io (l:List Int)(vS:Int)(h0:0<=vS)(D:vS<65521):0<=sumL l vS/\sumL l vS<65521:=by
 induction l generalizing vS with
 | nil=>exact⟨h0,D⟩
 | cons c r ih=>exact ih _ (Int.emod_nonneg _ (by decide)) (Int.emod_lt_of_pos _ (by decide))
theorem sumL_snoc (l:List Int)(x vS:Int):sumL (l ++ [x]) vS=(31*sumL l vS+x+1) % 65521:=by
 unfold sumL;rw[List.foldl_append];rfl
def sumOf (l:List Int)(vS:Int):Int:=if vS<0\/65521<=vS\/65536<l.length then 0 else sumL l vS
theorem sumL_take (l:List Int)(vS:Int)(k:Nat)(h:k<l.length):sumL (l.take (k+1)) vS=(31*sumL (l.take k) vS+l.getD k 0+1) % 65521:=by
 rw[take_get l k h,sumL_snoc]
theorem implSum_any (v:Value)(l:List Int)(vS:Int)(w:World)(hr:Rd w v l)(A:Bts l) :
  Calls Tryz.prog 35 #[v,H vS] w fun e w'=>e=ym (H (sumOf l vS))/\w'=w:=by
 obtain⟨a,cap,rfl,hl,hc⟩:=hr
 by_cases ut:vS<0\/65521<=vS\/65536<l.length
 ·have HF:=Q (show sumOf l vS=0 from if_pos ut);rcases Int.lt_or_le vS 0 with D|D
  ·go_enter Tryz.func35,Tryz.ntmps35;go_wp2_with fail;go_ret;exact⟨zt (Z HF).symm,rfl⟩
  ·rcases Int.lt_or_le vS 65521 with E|E
   ·have h3:(65536:Int)<l.length:=by omega
    go_enter Tryz.func35,Tryz.ntmps35;go_wp2_with fail;go_ret;exact⟨zt (Z HF).symm,rfl⟩
   ·go_enter Tryz.func35,Tryz.ntmps35;go_wp2_with fail;go_ret;exact⟨zt (Z HF).symm,rfl⟩
 ·have HF:=Q (show sumOf l vS=sumL l vS from if_neg ut);have D:0<=vS:=by omega
  have E:vS<65521:=by omega
  have h3:(l.length:Int)<=65536:=by omega
  have HC:=Q hc;have HB:=Q A;clear hc A ut;go_enter Tryz.func35,Tryz.ntmps35;go_wp2_with fail
  go_loop [5,22] (fun s i=>∃k:Nat,k<=l.length/\i=H k/\s=H (sumL (l.take k) vS)) (fun _ i=>l.length-(intOf i).toNat)
  case atStart=>exact⟨0,Nat.zero_le _,rfl,rfl⟩
  case round =>
   obtain⟨k,X,rfl,rfl⟩:=hrel
   by_cases xH:k<l.length
   ·obtain⟨b,off,rfl,xp⟩:=Z HC (by intro h;rw[h] at xH;simp at xH);have hck:=xp k xH;have hbk:=eQ (Z HB) k;have hsb:=io (l.take k) vS D E;have HS:=Q (sumL_take l vS k xH);have uq:(k:Int)<l.length:=by omega
    clear xp;generalize l.getD k 0=x at *;generalize sumL (l.take k) vS=s at *;obtain⟨qW,hx1⟩:=hbk;obtain⟨kt,xI⟩:=hsb;go_wp2_with fail
    go_round
    case rel=>exact⟨k+1,by omega,by go_num,by rw[Z HS]⟩
    case measure=>simp[intOf];omega
   ·have HT:=Q (show l.take k=l from yZ (by omega));go_wp2_with fail;go_ret;exact⟨zt (by rw[Z HT];exact(Z HF).symm),rfl⟩
theorem l01Sum_any (v:Value)(l:List Int)(vS:Int)(w:World)(hr:Rd w v l)(A:Bts l)(D:0<=vS)(E:vS<65521) :
  Calls Tryz.prog 51 #[v,H vS] w fun e w'=>e=ym (H (sumL l vS))/\w'=w:=by
 obtain⟨a,cap,rfl,hl,hc⟩:=hr;have HC:=Q hc;have HB:=Q A;clear hc A;go_enter Tryz.func51,Tryz.ntmps51;go_wp2_with fail
 go_loop [1,5] (fun s i=>∃k:Nat,k<=l.length/\i=H k/\s=H (sumL (l.take k) vS)) (fun _ i=>l.length-(intOf i).toNat)
 case atStart=>exact⟨0,Nat.zero_le _,rfl,rfl⟩
 case round =>
  obtain⟨k,X,rfl,rfl⟩:=hrel
  by_cases xH:k<l.length
  ·obtain⟨b,off,rfl,xp⟩:=Z HC (by intro h;rw[h] at xH;simp at xH);have hck:=xp k xH;have hbk:=eQ (Z HB) k;have hsb:=io (l.take k) vS D E;have HS:=Q (sumL_take l vS k xH);have uq:(k:Int)<l.length:=by omega
   clear xp;generalize l.getD k 0=x at *;generalize sumL (l.take k) vS=s at *;obtain⟨qW,hx1⟩:=hbk;obtain⟨kt,xI⟩:=hsb;go_wp2_with fail
   go_round
   case rel=>exact⟨k+1,by omega,by go_num,by rw[Z HS,Int.mul_comm]⟩
   case measure=>simp[intOf];omega
  ·have HT:=Q (show l.take k=l from yZ (by omega));go_wp2_with fail;go_ret;exact⟨zt (by rw[Z HT]),rfl⟩
def frA (l:List Int)(k:Nat)(s:Int):Option (Int × Nat × Nat × Int):=
 if l.length<=k then none else if l.getD k 0≠71/\l.getD k 0≠69 then none else
 match getU l (k+1) with
 | none=>none
 | some (u,n)=>if unz u<0\/8192<unz u\/(l.length:Int)-n<unz u+2 then none else
  if l.getD (n+(unz u).toNat) 0*256+l.getD (n+(unz u).toNat+1) 0≠sumL ((l.drop k).take (n+(unz u).toNat-k)) s then none else
  some (l.getD k 0,n,n+(unz u).toNat,sumL ((l.drop k).take (n+(unz u).toNat-k)) s)
theorem frA_end {l:List Int}{k:Nat}{s:Int}(h:l.length<=k):frA l k s=none:=by unfold frA;rw[if_pos h]
theorem frA_mark {l:List Int}{k:Nat}{s:Int}(h:l.getD k 0≠71/\l.getD k 0≠69):frA l k s=none:=by
 unfold frA;rw[if_pos h];simp
theorem frA_num {l:List Int}{k:Nat}{s:Int}(h:getU l (k+1)=none):frA l k s=none:=by
 unfold frA;rw[h];simp
theorem frA_bad {l:List Int}{k:Nat}{s:Int}{u n:Nat}(h:getU l (k+1)=some (u,n))(A:unz u<0\/8192<unz u\/(l.length:Int)-n<unz u+2):frA l k s=none:=by
 unfold frA;rw[h];simp only;rw[if_pos A];simp
theorem frA_sum {l:List Int}{k:Nat}{s:Int}{u n c:Nat}(h:getU l (k+1)=some (u,n))(hu:unz u=c)(A:l.getD (n+c) 0*256+l.getD (n+c+1) 0≠sumL ((l.drop k).take (n+c-k)) s):frA l k s=none:=by
 unfold frA;rw[h];simp only[hu,Int.toNat_natCast];rw[if_pos A];simp
theorem frA_yes {l:List Int}{k:Nat}{s:Int}{u n c:Nat}(h0:k<l.length)(D:l.getD k 0=71\/l.getD k 0=69)(h:getU l (k+1)=some (u,n))(hu:unz u=c)(hc:c<=8192)(hl:n+c+2<=l.length)
  (A:l.getD (n+c) 0*256+l.getD (n+c+1) 0=sumL ((l.drop k).take (n+c-k)) s):frA l k s=some (l.getD k 0,n,n+c,sumL ((l.drop k).take (n+c-k)) s):=by
 unfold frA;rw[if_neg (by omega),if_neg (by omega),h];simp only[hu,Int.toNat_natCast];rw[if_neg (by omega),if_neg (by omega)]
theorem frA_some {l:List Int}{k:Nat}{s:Int}{m:Int}{n t:Nat}{s2:Int}(h:frA l k s=some (m,n,t,s2)):k<n/\n<=t/\t+2<=l.length/\t-n<=8192/\(m=71\/m=69)/\s2=sumL ((l.drop k).take (t-k)) s:=by
 unfold frA at h;split at h
 ·cases h
 split at h
 ·cases h
 rename_i D E;cases M:getU l (k+1) with
 | none=>rw[M] at h;cases h
 | some x =>
  obtain⟨u,p⟩:=x;rw[M] at h;simp only at h;split at h
  ·cases h
  split at h
  ·cases h
  rename_i h3 h4;have uB:=gj 10 0 0 l (k+1) u p M;simp only[Option.some.injEq,Prod.mk.injEq] at h;obtain⟨rfl,rfl,rfl,rfl⟩:=h;refine⟨by omega,by omega,by omega,by omega,by omega,rfl⟩
end Go.Proofs.YtbghmldggahjiaaGreatDoor
