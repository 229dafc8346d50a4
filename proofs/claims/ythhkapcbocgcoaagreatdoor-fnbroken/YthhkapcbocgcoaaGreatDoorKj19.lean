/-.-/
import Derived.Test.YthhkapcbocgcoaaGreatDoorKj08
import Derived.Test.YthhkapcbocgcoaaGreatDoorKj17
import Derived.Test.YthhkapcbocgcoaaGreatDoorKj18
set_option linter.unusedVariables false
set_option maxHeartbeats 6400000
set_option maxRecDepth 100000
namespace Go.Proofs.YthhkapcbocgcoaaGreatDoor
open Go.RowKit
def evL (e:Ev):List Int:=e.kind::(shF e.kind).flatMap (wrF e)
theorem textL_le (s:ByteArray):(fd s).length<=23:=by
 have Y:=gI s;have h3:=lJ (zz (cutB s).size) (zz_lt _ (by omega) (by omega));rw[fd,yQ,bl_len];omega
theorem wrF_len (e:Ev)(he:e.fit)(o:Nat):0<(wrF e o).length/\(wrF e o).length<=23:=by
 unfold wrF;split
 ·rw[fl8_len];omega
 ·split
  ·exact⟨(textL_len _).1,textL_le _⟩
  ·exact⟨putU_pos _,yO (lJ _ (zz_lt _ (he.n o).1 (he.n o).2)) (by omega)⟩
theorem flat_le (e:Ev)(he:e.fit):∀os:List Nat,(os.flatMap (wrF e)).length<=23*os.length
 | []=>by simp
 | o::os=>by
  have:=flat_le e he os;have:=(wrF_len e he o).2;rw[List.flatMap_cons,yQ,List.length_cons];omega
theorem shF_len (k:Int):(shF k).length<=9:=by
 unfold shF
 repeat' split
 all_goals simp
structure AE (w Ws Wt:World) (v0:Value) (wr:World) (ov:Value):Prop where
 g:w.grownBy wr v0.ownBlock
 o:∀q,ov.ownBlock=some q->v0.ownBlock=some q\/(w.heap.size<q/\(q<Ws.heap.size\/Wt.heap.size<=q))
 k:∀i,i<Wt.heap.size->(i=w.heap.size\/Ws.heap.size<=i)->wr.heap[i]? = Wt.heap[i]?
 z:Wt.heap.size<=wr.heap.size
theorem ae_below {w Ws Wt wr wr':World}{v0 ov:Value}(h:AE w Ws Wt v0 wr ov)(E:yn wr wr'):AE w Ws Wt v0 wr' ov:=
 ⟨⟨E.os.trans h.g.os,E.tape.trans h.g.tape,E.output.trans h.g.output,yO h.g.size E.size,fun i hi hn=>(E.block i (yK hi h.g.size)).trans (h.g.block i hi hn)⟩,
  h.o,fun i hi hk=>(E.block i (yK hi h.z)).trans (h.k i hi hk),yO h.z E.size⟩
theorem ae_append {w Ws Wt wr wr':World}{v0 ov v':Value}(h:AE w Ws Wt v0 wr ov)(h0:∀q,v0.ownBlock=some q->q<w.heap.size)(hws:w.heap.size<Ws.heap.size)(qK:Ws.heap.size<=Wt.heap.size)(X:wr.grownBy wr' ov.ownBlock)(ha:v'.ownBlock=ov.ownBlock\/v'.ownBlock=some wr.heap.size):AE w Ws Wt v0 wr' v':=by
 refine⟨⟨X.os.trans h.g.os,X.tape.trans h.g.tape,X.output.trans h.g.output,yO h.g.size X.size,fun i hi hn=>?_⟩,fun q hq=>?_,fun i hi hk=>?_,yO h.z X.size⟩
 ·refine(X.block i (yK hi h.g.size) fun e=>?_).trans (h.g.block i hi hn);rcases h.o i e.symm with D|⟨D,_⟩
  ·exact hn D.symm
  ·omega
 ·rcases ha with ha|ha
  ·exact h.o q (ha ▸ hq)
  ·rw[ha] at hq;obtain rfl:wr.heap.size=q:=by simpa using hq
   exact .inr ⟨by have:=h.z;omega,.inr h.z⟩
 ·refine(X.block i (yK hi h.z) fun e=>?_).trans (h.k i hi hk);rcases h.o i e.symm with D|⟨D,Y⟩
  ·have:=h0 i D;omega
  ·omega
theorem ff_blk {cs o:Nat}{W W':World}{c:Fc}(h:FF W cs o c)(hs:W.heap.size<=W'.heap.size)(E:∀i,i<W.heap.size->cs<=i->W'.heap[i]? = W.heap[i]?):FF W' cs o c:=by
 unfold FF at h |-;split
 ·rwa[if_pos ‹_›] at h
 ·rw[if_neg ‹_›] at h;split
  ·rwa[if_pos ‹_›] at h
  ·rw[if_neg ‹_›] at h;obtain⟨b,D,Y,h3,h4⟩:=h;exact⟨b,D,Y,yK h3 hs,(yR (a:=(J b 0)) (E b h3 Y)).trans h4⟩
theorem fld_shape (c:Int)(a:Option Addr)(n cap:Nat)(W:World):(Instr.field 95 (.agg #[H c,.slice a n cap]) 1).run Tryz.prog W = .ok (.slice a n cap) W:=by kernel_rfl
def AdEnd (B:Nat)(v0:Value)(l:List Int)(w:World)(r:Ending)(w':World):Prop:=
 ∃v,r = .returned v/\BRow w' B v l/\w.grownBy w' v0.ownBlock/\∀q,v.ownBlock=some q->v0.ownBlock=some q\/w.heap.size<q
theorem adEnd_done {B:Nat}{v0 ov:Value}{l:List Int}{w Ws Wt wr:World}(hr:BRow wr B ov l)(h:AE w Ws Wt v0 wr ov):AdEnd B v0 l w (.returned ov) wr:=
 ⟨ov,rfl,hr,h.g,fun q hq=>(h.o q hq).imp (fun h=>h) fun h=>h.1⟩
theorem addEvent_any (e:Ev)(he:e.fit)(hk:1<=e.kind/\e.kind<=9)(B:Nat)(v0:Value)(l0:List Int)(w:World)(hB:B<=w.heap.size)(uF:BRow w B v0 l0)(jN:l0.length<=1048576) :
  Calls Tryz.prog 48 #[v0,evV e] w fun r w'=>AdEnd B v0 (l0++evL e) w r w':=by
 have hsf:=sfl;have hsfn:=sfn;have hfld:=fld_shape;obtain⟨i0,vk,uI,uG,uZ⟩:=info_parts Tryz.infoByte;have h0:∀q,v0.ownBlock=some q->q<w.heap.size:=fun q hq=>(uF.lt q hq).2;have HFit:=Z he;have HKd:=Z hk;have uf:Hid (yn w (w.alloc (Obj.cells e.vs.toArray 37))):=mn _ _;have uV:=Z (zn w e.vs 37);have jk:Hid ((w.alloc (Obj.cells e.vs.toArray 37)).heap.size=w.heap.size+1):=by show _ = _;simp
 have qe:=Z (iV uF (U uf));have HWF:=Z (fun cs o c W D Y=>writeField_any cs o c e W he D Y);have HWL:=Z (wrF_len e he);have HFL:=Z (flat_le e he);have oT:0<=e.kind:=by omega
 have af:e.kind<=255:=by omega
 clear he hk uF;have HEL:=Z (show evL e=e.kind::(shF e.kind).flatMap (wrF e) from rfl);generalize evL e=EL at *;generalize wrF e=wf at *;obtain⟨xm,⟨ck,F,ct,O,cq,ci,cp,cg⟩,id,xj,qty,xk,xh⟩:=e;unfold evV at HWF |-;unfold Ev.vs at uf uV jk qe;simp only at HWF uf uV jk qe HEL oT af |-;go_enter Tryz.func48,Tryz.ntmps48;refine ms fun mR xE=>?_;go_wp2_with fail;refine U xE _ _ ?_;clear xE;generalize (w.alloc (Obj.cells (yv xm ck F ct O cq ci cp cg id xj qty xk xh).toArray 37))=hg at uf uV jk qe |-;have x0:=A (U uV) 0 rfl;have qh:Hid (yn hg (hg.alloc (Obj.cells #[.int .u8 xm] 5))):=mn _ _;have HOT:Hid (OwnT hg.heap.size (hg.alloc (Obj.cells #[.int .u8 xm] 5)) (.slice (some (J hg.heap.size 0)) 1 1) [xm]):=⟨hg.heap.size,1,#[.int .u8 xm],5,rfl,Nat.le_refl _,heap_alloc_new _ _,Nat.le_refl _,Nat.le_refl _,by unfold maxLen;omega,by simp,rfl⟩;have HRA:=Z (iV (U qe) (U qh));have HZA:Hid ((hg.alloc (Obj.cells #[.int .u8 xm] 5)).heap.size=w.heap.size+2):=by show _ = _;simp[U jk]
 refine ms fun mR xE=>?_;go_wp2_with (at_builtin;go_must (refine me _ rfl (.tmp 7) (.tmp 11) 22 rfl B i0 Tryz.underlying22 vk uI uG uZ _ l0 rfl (U HRA) hg.heap.size _ [xm] rfl (U HOT) (by simp;omega) (by have:=U HZA;omega) ?_);intro v1 w1 oH pZ ha1);have hxz:=U HZA
 have hgA:w.grownBy w1 v0.ownBlock:=by
  have E:=(U uf).trans ((U qh).mono (U uf).size);exact⟨pZ.os.trans E.os,pZ.tape.trans E.tape,pZ.output.trans E.output,yO E.size pZ.size,fun i hi hn=>(pZ.block i (by omega) hn).trans (E.block i hi)⟩
 have jV:Bx w1 w.heap.size (yv xm ck F ct O cq ci cp cg id xj qty xk xh):=dU (zg (U uV) (U qh) (by rw[U jk];omega)) (pZ.block w.heap.size (by omega) (fun e=>absurd (h0 _ e.symm) (Nat.lt_irrefl _)));have qF:w.heap.size+2<=w1.heap.size:=by have:=pZ.size;omega
 have hv1:∀q,v1.ownBlock=some q->v0.ownBlock=some q\/(w.heap.size<q/\q<w1.heap.size):=fun q hq=>by
  rcases ha1 with ha|ha
  ·exact .inl (ha ▸ hq)
  ·refine .inr ⟨?_,(oH.lt q hq).2⟩;rw[ha] at hq;have:(hg.alloc (Obj.cells #[.int .u8 xm] 5)).heap.size=q:=by simpa using hq
   omega
 refine U xE _ _ ?_;have x1:=A jV 0 rfl;have HGA:=Z hgA;have xG:=Z jV;have HV1:=Z hv1;have qM:=Z oH;clear xE pZ ha1 hgA jV hv1 oH uf uV jk qe qh HOT HRA HZA x0 hxz;go_wp2_with fail;refine(shape_any xm w1).mono ?_;rintro r W3 ⟨fv,fs,rfl,hof,hff,xL⟩;have vV:=(ffs_get hff).1;have HF3:=Z hff;have ka:=Z hof;have aS:=Z (iV (U qM) xL)
 have HAE:Hid (AE w w1 W3 v0 W3 v1):=⟨⟨xL.os.trans (U HGA).os,xL.tape.trans (U HGA).tape,xL.output.trans (U HGA).output,yO (U HGA).size xL.size,fun i hi hn=>(xL.block i (by omega)).trans ((U HGA).block i hi hn)⟩,
  fun q hq=>(U HV1 q hq).imp (fun h=>h) fun h=>⟨h.1,.inl h.2⟩,fun _ _ _=>rfl,Nat.le_refl _⟩
 have uT:=Z (zg (U xG) xL (by omega));have qK:=xL.size;obtain⟨fa,pe,rfl,cO,uF⟩:=hof;clear hff xL qM HGA HV1 xG x1 uF;go_wp2_with fail;go_loopw [0,18] (fun ov iv wr=>∃(k:Nat),k<=fs.length/\iv=H k/\Hid (BRow wr B ov (l0 ++ [xm]++((shF xm).take k).flatMap wf)/\AE w w1 W3 v0 wr ov)) (fun _ iv _=>fs.length-(intOf iv).toNat)
 case atStart=>exact⟨0,Nat.zero_le _,rfl,by rw[List.take_zero,List.flatMap_nil,List.append_nil];exact U aS,U HAE⟩
 case round =>
  obtain⟨k,hk,rfl,jn⟩:=hrel
  by_cases xM:k<fs.length
  ·obtain⟨c,hic⟩:∃c,fs[k]? = some c:=⟨_,yI xM⟩;obtain⟨o,jx,pY⟩:=(ffs_get (U HF3)).2 k c hic;obtain⟨aG,pV⟩:=U jn;have hfw:=ff_blk pY pV.z (fun i hi hF=>pV.k i hi (.inr hF));obtain⟨a7,c7,e7,_,uF⟩:=U ka;simp only[Value.slice.injEq] at e7;obtain⟨rfl,_,rfl⟩:=e7;obtain⟨g,rfl,hg0,pZ,xW,_⟩:=uF (by intro h;rw[h] at xM;simp at xM);have hgb:=pV.k g pZ (.inr hg0);have q0:wr.cell? (J g (0+k*2+0)) = _:=(yR (a:=(J g (0+k*2+0))) hgb).trans (xW k c hic 0 _ rfl);have q1:wr.cell? (J g (0+k*2+1)) = _:=(yR (a:=(J g (0+k*2+1))) hgb).trans (xW k c hic 1 _ rfl);simp only[Nat.zero_add,Nat.add_zero] at q0 q1;have hen:=fun args V=>(field_enter _ o c wr hfw args V).2;have hEV:=shF_evO xm o (yP jx);have uL:(k:Int)<fs.length:=by omega
   have HD:Hid ((shF xm).take (k+1)=(shF xm).take k ++ [o]):=by
    show(shF xm).take (k+1) = _;rw[List.take_add_one,jx];rfl
   obtain⟨n1,n2,fl⟩:=c;have qR:=mn wr (Obj.cells #[.func (.func n1) #[] fl,.func (.func n2) #[] fl] 136);have hXw:Bx wr w.heap.size (yv xm ck F ct O cq ci cp cg id xj qty xk xh):=dU (U uT) (pV.k w.heap.size (by omega) (.inl rfl));have hX:=zg hXw qR (by have:=pV.z;omega);obtain ⟨z0,z1,z2,z3,z4,z5,z6,z7,z8,z9,jD,ko,kp,kq⟩:=q0_14 hX rfl;have HCT:=Z (U HWF w1.heap.size o ⟨n1,n2,fl⟩ _ hEV (iM hfw qR ya));have HRW:=Z (iV aG qR);have HAW:=Z (ae_below pV qR);have hL:=yO (U HFL ((shF xm).take k)) (Nat.mul_le_mul_left 23 (yO (List.length_take_le _ _) (Nat.le_refl k)));have jW:k<=9:=yO hk (by rw[<- vV];exact shF_len xm)
   have hLL:(l0 ++ [xm]++((shF xm).take k).flatMap wf).length<=1048784:=by
    rw[yQ,yQ,List.length_singleton];omega
   have hLO:=(U HWL o);have HZR:=Z pV.z;clear xW hic jx pY hfw qR hEV jn aG pV hX hXw hL uF hgb;simp only at hen HCT;generalize hLD:l0 ++ [xm]++((shF xm).take k).flatMap wf=hR at *;have HLD:=Z hLD;clear hLD;go_wp2_with fail;refine(U HCT).mono ?_;rintro r w4 ⟨v4,rfl,dN,xy⟩;have cw:=Z (iV (U HRW) xy);have HA4:=Z (ae_below (U HAW) xy);have kD:=Z dN;have hB4:B<=w4.heap.size:=by have:=(U HA4).z;omega
   have HN:Hid (l0 ++ [xm]++((shF xm).take (k+1)).flatMap wf=hR++wf o):=by
    show l0 ++ [xm]++((shF xm).take (k+1)).flatMap wf=hR++wf o;rw[U HD,List.flatMap_append,<- List.append_assoc,U HLD];simp
   clear dN xy HRW HAW HCT z0 z1 z2 z3 z4 z5 z6 z7 z8 z9 jD ko kp kq q0 q1 hen;go_wp2_with (at_builtin;go_must (refine me _ rfl (.tmp 22) (.tmp 26) 22 rfl B i0 Tryz.underlying22 vk uI uG uZ _ hR rfl (U cw) _ _ (wf o) rfl (U kD) (by omega) hB4 ?_);intro v5 w5 hr5 vI ha5;have px:=Z hr5;have HA5:=Z (ae_append (U HA4) h0 (by omega) qK vI ha5);clear hr5 vI ha5)
   go_roundw
   case rel=>exact⟨k+1,by omega,by go_num,by rw[U HN];exact U px,U HA5⟩
   case measure=>simp[intOf];omega
  ·obtain⟨aG,pV⟩:=U jn;have aC:k=fs.length:=by omega
   rw[xa (by omega),List.append_assoc,show[xm]++(shF xm).flatMap wf=EL from(U HEL).symm] at aG;have HE:=Z (adEnd_done aG pV);clear aG pV jn;go_wp2_with fail;go_ret;exact U HE
theorem toldCmd_all (e:Ev)(w:World):Calls Tryz.prog 183 #[evV e] w fun r w'=>r=ym (.tuple #[cmV (dV e),.bool (zX e.kind)])/\yn w w':=by
 have hsf:=sfl;obtain⟨xm,⟨ck,F,ct,O,cq,ci,cp,cg⟩,id,xj,qty,xk,xh⟩:=e;unfold evV dV cmV zCm zX;simp only
 by_cases hk:xm=1\/xm=2\/xm=6\/xm=7\/xm=8
 ·rcases hk with rfl|rfl|rfl|rfl|rfl
  all_goals
   simp;go_enter Tryz.func183,Tryz.ntmps183;go_wp2_with fail;go_returns;exact⟨rfl,by go_grown⟩
 ·have D:(xm==1)=false:=by simp;omega
  have Y:(xm==2)=false:=by simp;omega
  have h6:(xm==6)=false:=by simp;omega
  have h7:(xm==7)=false:=by simp;omega
  have h8:(xm==8)=false:=by simp;omega
  rw[if_neg (by omega),if_neg (by omega),if_neg (by omega),if_neg (by omega),if_neg (by omega),D,Y,h6,h7,h8];clear hk;simp;go_enter Tryz.func183,Tryz.ntmps183;go_wp2_with fail;go_returns;exact⟨rfl,by go_grown⟩
theorem toldCmd_any (e:Ev)(w:World)(hk:1<=e.kind/\e.kind<=9):Calls Tryz.prog 183 #[evV e] w fun r w'=>r=ym (.tuple #[cmV (dV e),.bool (zX e.kind)])/\yn w w':=toldCmd_all e w
theorem scan_putR (l r:List Int)(k:Nat):∀(f x i acc:Nat),f=10-i->i<=9->l.drop (k+i)=putU x++r->acc+x*128 ^ i<18446744073709551616->(0<i->0<x) ->
  scan l k f i acc=some (acc+x*128 ^ i,k+i+(putU x).length)
 | 0,x,i,acc,hf,hi,_,_,_=>by omega
 | f+1,x,i,acc,hf,hi,hd,xM,jO=>by
  have h9:i=9->x<=1:=by
   intro e;subst e;have e9:(128:Nat) ^ 9=9223372036854775808:=by decide
   rw[e9] at xM;omega
  by_cases hx:x<128
  ·rw[iY hx] at hd |-;obtain⟨D,Y,_⟩:=drop_head hd;rw[scan,if_neg (by omega),Y,if_neg (by omega),if_pos (by omega)];have e:((x:Int) % 128).toNat=x:=by omega
   rw[e];rfl
  ·rw[lI hx] at hd |-;rw[List.cons_append] at hd;obtain⟨D,Y,h3⟩:=drop_head hd;rw[scan,if_neg (by omega),Y,if_neg (by omega),if_neg (by omega)];have e:(((x:Int) % 128+128) % 128).toNat=x % 128:=by omega
   have e2:acc+x % 128*128 ^ i+x / 128*128 ^ (i+1)=acc+x*128 ^ i:=by
    rw[Nat.pow_succ,Nat.mul_comm (128 ^ i) 128,<- Nat.mul_assoc,Nat.add_assoc,<- Nat.add_mul,Nat.mod_add_div']
   rw[e,scan_putR l r k f (x / 128) (i+1) _ (by omega) (by omega) h3 (by rw[e2];exact xM) (by omega),e2];simp only[List.length_cons];congr 2;omega
theorem getU_putR (a r:List Int)(u:Nat)(h:u<18446744073709551616):getU (a++(putU u++r)) a.length=some (u,a.length+(putU u).length):=by
 have:=scan_putR (a++(putU u++r)) r a.length 10 u 0 0 rfl (by omega) (by simp) (by omega) (by omega);simpa[getU] using this
theorem floatA_wr (a r:List Int)(x:Nat)(h:x<18446744073709551616):fJ (a++(fl8 (fbit x)++r)) a.length=some (fbit x,a.length+8):=by
 have E:eA (a++(fl8 (fbit x)++r)) a.length 8=fbit x:=by
  unfold eA;rw[List.drop_left,List.take_left' (fl8_len _)];exact fl8_back _ (fbit_lt x h)
 rw[floatA_yes (by simp[fl8_len]) (by rw[E];exact fbit_nan x),E]
theorem byte_push (l:List UInt8):∀s:ByteArray,((l.map fun b=>(b.toNat:Int)).foldl (fun r n=>r.push (UInt8.ofNat n.toNat)) s).data.toList=s.data.toList++l:=by
 induction l with
 | nil=>intro s;simp
 | cons b l ih =>
  intro s;rw[List.map_cons,List.foldl_cons,ih];simp[ByteArray.push]
theorem strB_bl (s:ByteArray):strB (bl s)=s:=by
 have h:=byte_push s.data.toList ByteArray.empty;unfold strB bl;generalize List.foldl _ _ _ = t at h |-;obtain⟨⟨d⟩⟩:=t;obtain⟨⟨e⟩⟩:=s;simp only at h;have:d=e:=h;rw[this]
theorem textA_wr (a r:List Int)(s:ByteArray):textA (a++(fd s++r)) a.length=some (cutB s,a.length+(fd s).length):=by
 have hc:=gI s;have hz:=zz_lt ((cutB s).size:Int) (by omega) (by omega);have hu:=getU_putR a (bl (cutB s)++r) (zz (cutB s).size) hz;have e:a++(fd s++r)=a++(putU (zz (cutB s).size)++(bl (cutB s)++r)):=by unfold fd;simp
 rw[e,textA_yes hu (by
  rw[unz_zz];simp only[yQ,bl_len];omega),unz_zz]
 have e2:(a++(putU (zz (cutB s).size)++(bl (cutB s)++r))).drop (a.length+(putU (zz (cutB s).size)).length)=bl (cutB s)++r:=by
  rw[<- List.append_assoc,List.drop_left' (by simp)]
 rw[e2,Int.toNat_natCast,List.take_left' (bl_len _),strB_bl];simp only[fd,yQ,bl_len];congr 2;omega
def bkF (e:Ev)(o:Nat):Value:=if o=7 then yj (fbit e.cmd.p) else if o=8 then yk (cutB e.cmd.g) else H (e.num o)
theorem rdF_wr (e:Ev)(he:e.fit)(o:Nat)(a r:List Int):rdF o (a++(wrF e o++r)) a.length=some (bkF e o,a.length+(wrF e o).length):=by
 unfold rdF wrF bkF;split
 ·rw[floatA_wr a r _ he.p,fl8_len];rfl
 ·split
  ·rw[textA_wr];rfl
  ·rw[getU_putR a r _ (zz_lt _ (he.n o).1 (he.n o).2)];simp only[Option.map_some,unz_zz]
theorem rdEs_wr (e:Ev)(he:e.fit):∀(os:List Nat) (x:Ev) (a r:List Int),rdEs os x (a++(os.flatMap (wrF e)++r)) a.length=some (os.foldl (fun x o=>x.put o (bkF e o)) x,a.length+(os.flatMap (wrF e)).length)
 | [],x,a,r=>by simp[rdEs]
 | o::os,x,a,r=>by
  have D:=rdF_wr e he o a (os.flatMap (wrF e)++r);have Y:=rdEs_wr e he os (x.put o (bkF e o)) (a++wrF e o) r;rw[List.flatMap_cons,List.append_assoc,rdEs_some D];rw[List.append_assoc,yQ] at Y;rw[Y,List.foldl_cons,yQ,Nat.add_assoc]
def bkE (e:Ev):Ev:=(shF e.kind).foldl (fun x o=>x.put o (bkF e o)) (ev0 e.kind)
theorem evA_wr (e:Ev)(he:e.fit)(hk:shF e.kind ≠ [])(r:List Int):evA (evL e++r) 0=some (bkE e,(evL e).length):=by
 have h:=rdEs_wr e he (shF e.kind) (ev0 e.kind) [e.kind] r;have e1:(evL e++r).getD 0 0=e.kind:=rfl;rw[evA_yes (by simp[evL]) (by rw[e1];exact hk),e1];have e2:evL e++r = [e.kind]++((shF e.kind).flatMap (wrF e)++r):=by simp[evL]
 rw[e2,show(0:Nat)+1 = [e.kind].length from rfl,h];simp[bkE,evL];omega
theorem evL_len (e:Ev)(he:e.fit):0<(evL e).length/\(evL e).length<=208:=by
 have D:=flat_le e he (shF e.kind);have Y:=shF_len e.kind;unfold evL;rw[List.length_cons];omega
theorem textL_bts (s:ByteArray):Bts (fd s):=by
 intro x hx;rcases List.mem_append.1 hx with h|h
 ·exact putU_bts _ x h
 ·obtain⟨b,_,rfl⟩:=List.mem_map.1 h;have:=b.toNat_lt;omega
theorem evL_bts (e:Ev)(hk:1<=e.kind/\e.kind<=9):Bts (evL e):=by
 intro x hx;rcases List.mem_cons.1 hx with rfl|h
 ·omega
 ·obtain⟨o,_,Q⟩:=List.mem_flatMap.1 h;unfold wrF at Q;split at Q
  ·exact fl8_bts _ x Q
  ·split at Q
   ·exact textL_bts _ x Q
   ·exact putU_bts _ x Q
theorem shF_ne (k:Int):shF k ≠ [] ↔ 1<=k/\k<=9:=by
 unfold shF
 repeat' split
 all_goals simp
 all_goals omega
end Go.Proofs.YthhkapcbocgcoaaGreatDoor
