/-.-/
import Derived.Test.YtkofhemdefffpaaGreatDoorPq16
import Derived.Test.YtkofhemdefffpaaGreatDoorPq27
import Derived.Test.YtkofhemdefffpaaGreatDoorPq32
import Derived.Lib.SlBytesConst
set_option linter.unusedVariables false
set_option maxHeartbeats 6400000
set_option maxRecDepth 100000
namespace Go.Proofs.YtkofhemdefffpaaGreatDoor
open Go.RowKit
section
variable {C:Nat->Value->Prop} {n m:Nat} {p:Addr} {md:World->Value->Prop} {base W W':World} {x:List Bool} {f:Nat->Value}
end
def cutC (c:Cm):Cm:=⟨c.k,c.s,c.t,c.l,c.q,c.i,c.p,cutB c.g⟩
theorem cutC_short {c:Cm}(h:c.g.size<=12):cutC c=c:=by
 have e:cutB c.g=c.g:=by unfold cutB;rw[if_neg (by omega)]
 unfold cutC;rw[e]
theorem cut_long {s:ByteArray}(h:12<s.size):(cutB s).size=13:=by
 unfold cutB;rw[if_pos h];simp;omega
theorem toList_len0 {s:ByteArray}(h:12<s.size):s.toList ≠ []:=fun e=>by
 have Z:s.toList=s.data.toList:=Go.ByteArray.toList_eq s;rw[Z] at e;have Q:s.data.toList.length=0:=by rw[e];rfl
 have I:s.data.toList.length=s.size:=by rw[Array.length_toList];rfl
 omega
theorem refR_long {n:Int}{l:List Od}{c:Cm}(h:12<c.g.size) :
  refR n l c=if c.k=1 then(if c.i=0 then(if betB c.s 1 2=false then 3 else if betB c.t 1 5=false then 4 else if lifW c=true then 5 else if prcB c=false then 6 else if betB c.q 1 1000000=false then 7 else 8) else 2) else if c.k=2 then 2 else if c.k=3 then 2 else if c.k=4 then 2 else 1:=by
 have F:decide (([]:List UInt8)=c.g.toList)=false:=decide_eq_false fun e=>toList_len0 h e.symm;have hz:(⟨#[]⟩:ByteArray).toList = []:=by decide +kernel
 rw[refR]
 by_cases Z:c.k=1
 ·rw[if_pos Z,if_pos Z]
  have e:dd ⟨1,c.s,c.t,c.l,c.q,0,c.p,c.g⟩ c=decide (c.i=0):=by
   rw[dd];simp only[Z,beq_self_eq_true,Bool.true_and,decide_true,Bool.and_true]
   by_cases hi:c.i=0
   ·rw[hi];rfl
   ·rw[decide_eq_false hi];simpa using fun e=>hi e.symm
  rw[e]
  have en:newR n l c=if betB c.s 1 2=false then 3 else if betB c.t 1 5=false then 4 else if lifW c=true then 5 else if prcB c=false then 6 else if betB c.q 1 1000000=false then 7 else 8:=by
   rw[newR,tag_long _ (by omega),if_pos rfl]
  rw[en]
  by_cases hi:c.i=0
  ·rw[if_pos (by simpa using hi),if_pos hi]
  ·rw[if_neg (by simpa using hi),if_neg hi]
 ·rw[if_neg Z,if_neg Z]
  have e:∀a b:Int,∀k2:Int,dd ⟨k2,0,0,0,a,b,0,⟨#[]⟩⟩ c=false:=fun a b k2=>by
   rw[dd];simp only[hz,F,Bool.and_false]
  rw[e,e,e];simp only[if_neg Bool.false_ne_true]
theorem refR_cut {n:Int}{l:List Od}(c:Cm):refR n l (cutC c)=refR n l c:=by
 by_cases h:12<c.g.size
 ·have Q:12<(cutC c).g.size:=by show 12<(cutB c.g).size;rw[cut_long h];decide
  rw[refR_long h,refR_long Q];rfl
 ·rw[cutC_short (by omega)]
theorem cut_cut (c:Cm):cutC (cutC c)=cutC c:=by
 by_cases h:12<c.g.size
 ·have e:cutB (cutB c.g)=cutB c.g:=cutB_one _ (cut_long h);unfold cutC;simp only[e]
 ·rw[cutC_short (c:=c) (by omega),cutC_short (by omega)]
theorem form1 {n:Int}{l:List Od}{c:Cm}(h:refR n l c=0)(E:c.k=1):c=⟨1,c.s,c.t,c.l,c.q,0,c.p,c.g⟩:=by
 rw[refR,if_pos E] at h
 have e:dd ⟨1,c.s,c.t,c.l,c.q,0,c.p,c.g⟩ c=true:=by
  cases hs:dd ⟨1,c.s,c.t,c.l,c.q,0,c.p,c.g⟩ c
  ·rw[hs] at h;cases h
  ·rfl
 rw[dd] at e;simp only[xf,beq_iff_eq] at e;obtain⟨k,s,t,l',q,i,p,g⟩:=c;simp only at E e |-;rw[E,<- e.2.2.2.2.2.1]
theorem same_self (c:Cm):dd c c=true:=by
 rw[dd];simp
theorem toldCan {n:Int}{l:List Od}{c:Cm}(h:refR n l c=0)(E:c.k=2):refR n l ⟨2,0,0,0,0,c.i,0,⟨#[]⟩⟩=0:=by
 rw[refR,if_neg (by omega),if_pos E] at h;rw[refR,if_neg (by show ¬ (2:Int)=1;decide),if_pos (by rfl),if_pos (same_self _)];split at h
 ·exact h
 ·cases h
theorem toldRed {n:Int}{l:List Od}{c:Cm}(h:refR n l c=0)(E:c.k=3):refR n l ⟨3,0,0,0,c.q,c.i,0,⟨#[]⟩⟩=0:=by
 rw[refR,if_neg (by omega),if_neg (by omega),if_pos E] at h;rw[refR,if_neg (by show ¬ (3:Int)=1;decide),if_neg (by show ¬ (3:Int)=2;decide),if_pos (by rfl),if_pos (same_self _)];split at h
 ·exact h
 ·cases h
theorem toldDay (n:Int)(l:List Od):refR n l ⟨4,0,0,0,0,0,0,⟨#[]⟩⟩=0:=by
 rw[refR,if_neg (by show ¬ (4:Int)=1;decide),if_neg (by show ¬ (4:Int)=2;decide),if_neg (by show ¬ (4:Int)=3;decide),if_pos (by rfl),if_pos (same_self _)]
theorem strB_data:∀(ns:List Int) (r:ByteArray),(ns.foldl (fun r n=>r.push (UInt8.ofNat n.toNat)) r).data.toList=r.data.toList++ns.map fun n=>UInt8.ofNat n.toNat
 | [],r=>by simp
 | a::ns,r=>by
  rw[List.foldl_cons,strB_data ns,ByteArray.data_push];simp
theorem strB_inj {a b:List Int}(ha:Bts a)(K:Bts b)(h:strB a=strB b):a=b:=by
 have Z:=strB_data a ByteArray.empty;have Q:=strB_data b ByteArray.empty;unfold strB at h;rw[h,Q] at Z;have I:(b.map fun n=>UInt8.ofNat n.toNat)=a.map fun n=>UInt8.ofNat n.toNat:=List.append_cancel_left Z;clear h Z Q
 induction a generalizing b with
 | nil=>cases b with
  | nil=>rfl
  | cons x b=>cases I
 | cons x a ih =>
  cases b with
  | nil=>cases I
  | cons y b =>
   simp only[List.map_cons,List.cons.injEq] at I;have hx:=ha x (by simp);have hy:=K y (by simp);have e:=congrArg UInt8.toNat I.1;rw[UInt8.toNat_ofNat_of_lt' (by show y.toNat<256;omega),UInt8.toNat_ofNat_of_lt' (by show x.toNat<256;omega)] at e;rw[ih (fun z hz=>ha z (by simp[hz])) (fun z hz=>K z (by simp[hz])) I.2];congr 1;omega
theorem lX (va vb:Value)(la lb:List Int)(w:World)(ha:Rd w va la)(K:Rd w vb lb)(ba:Bts la)(bb:Bts lb) :
  Calls Tryz.prog 67 #[va,vb] w fun e w'=>e=yn (.bool (decide (la=lb)))/\w'=w:=by
 have c1:=conv_text va la w ha;have c2:=conv_text vb lb w K
 have HD:Hid (((strB la).toList==(strB lb).toList)=decide (la=lb)):=by
  show _ = _
  by_cases h:la=lb
  ·subst h;simp
  ·have:(strB la).toList≠(strB lb).toList:=fun e=>h (strB_inj ba bb (by
    rw[ByteArray.toList_eq,ByteArray.toList_eq] at e;exact ByteArray.ext (Array.toList_inj.1 e)))
   simp[h,this]
 go_enter Tryz.func67,Tryz.ntmps67;go_wp2;go_ret;exact⟨by rw[<- O HD];rfl,rfl⟩
theorem hasPrefix_any (v vp:Value)(l p:List Int)(w:World)(hr:Rd w v l)(xW:∀a n c,v = .slice a n c->n<=c)(hp:Rd w vp p)(K:Bts l)(hbp:Bts p)(h0:0<p.length)(hl:l.length<=1048576) :
  Calls Tryz.prog 43 #[v,vp] w fun e w'=>e=yn (.bool (decide (l.take p.length=p)))/\w'=w:=by
 obtain⟨a,cap,rfl,-,hc⟩:=id hr;obtain⟨ap,cp,rfl,uO,-⟩:=id hp;have HE:=U (fun va la (kH:Rd w va la) (jc:Bts la)=>lX va (.slice ap p.length cp) la p w kH hp jc hbp);have qd:=xW _ _ _ rfl
 by_cases h:p.length<=l.length
 ·obtain⟨b,off,rfl,hcc⟩:=hc (by intro e;rw[e] at h;simp only[List.length_nil] at h;omega);have Z:(p.length:Int)<=l.length:=by omega
  have Q:(p.length:Int)<=cap:=by omega
  have I:((l.length:Int) ≥ p.length):=by omega
  have HR:Hid (Rd w (.slice (some (Y b off)) p.length cap) (l.take p.length)):=by
   refine⟨_,cap,by rw[List.length_take,Nat.min_eq_left h],by rw[List.length_take];omega,fun _=>⟨b,off,rfl,fun i hi=>?_⟩⟩;rw[List.length_take,Nat.min_eq_left h] at hi;rw[hcc i (by omega)];have:(l.take p.length).getD i 0=l.getD i 0:=by simp[hi]
   rw[this]
  have HBL:Hid (Bts (l.take p.length)):=fun x hx=>K x (List.mem_of_mem_take hx);clear hcc hc hr hp xW K;go_enter Tryz.func43,Tryz.ntmps43;go_wp2_with fail;refine(O HE _ _ (O HR) (O HBL)).mono ?_;rintro e w1 ⟨rfl,rfl⟩;go_wp2_with fail;go_ret;exact⟨rfl,rfl⟩
 ·have I:¬ ((p.length:Int)<=l.length):=by omega
  have e:decide (l.take p.length=p)=false:=decide_eq_false fun e=>by
   have:=congrArg List.length e;rw[List.length_take] at this;omega
  rw[e];clear hc hr hp xW K;go_enter Tryz.func43,Tryz.ntmps43;go_wp2;go_ret;exact⟨rfl,rfl⟩
abbrev headO:Obj:=.cells #[.int .u8 84,.int .u8 74,.int .u8 49] 5 (3,4)
theorem rd_head (w:World):Rd (w.alloc headO) (.slice (some (yr w 0)) 3 3) [84,74,49]:=
 ⟨_,3,rfl,by simp,fun _=>⟨w.heap.size,0,rfl,fun i hi=>by
  match i,hi with
  | 0,_=>unfold World.cell?;rw[heap_alloc_new];rfl
  | 1,_=>unfold World.cell?;rw[heap_alloc_new];rfl
  | 2,_=>unfold World.cell?;rw[heap_alloc_new];rfl
  | i+3,hi=>exact absurd hi (by simp)⟩⟩
theorem conv_head (w:World):(convert 22 22 (.slice (some (yr w 0)) 3 3)).run Tryz.prog (w.alloc (.cells #[.int .u8 84,.int .u8 74,.int .u8 49] 5)) = .ok (.slice (some (yr w 0)) 3 3) (w.alloc headO):=
 Lib.run_convert_bytes_const w _ _ _ 3 3 Tryz.underlying22 Tryz.underlying5
theorem head_bts:Bts [84,74,49]:=fun x hx=>by simp at hx;omega
theorem headSum_any (w:World):Calls Tryz.prog 44 #[] w fun e w'=>e=yn (H (sumL [84,74,49] 1))/\yp w w':=by
 have HB:Hid (yp w (w.alloc headO)):=mc _ _;have HS:=U (implSum_any _ _ 1 _ (rd_head w) head_bts);have e:sumOf [84,74,49] 1=sumL [84,74,49] 1:=by unfold sumOf;rw[if_neg (by simp)]
 rw[e] at HS;generalize sumL [84,74,49] 1=s at HS |-;clear e;have hcv:=conv_head w;generalize w.alloc headO=W1 at HB HS hcv;go_enter Tryz.func44,Tryz.ntmps44;go_wp2_with fail;refine(O HS).mono ?_;rintro e w1 ⟨rfl,rfl⟩;go_wp2_with fail;go_ret;exact⟨rfl,O HB⟩
theorem cancel_chk {G B r:Nat}{vq:Value}{g:Gr}(e:Ev)(w:World)(h:GS G B r w vq g)(hi:GI g)(he:okE e=true)(E:e.kind=6)(F:e.cmd.g.size<=maxLen):Calls Tryz.prog 98 #[h3 G 0,evV e] w fun x w'=>Chk G B r vq g e w x w':=by
 have hsf:=sfl;have hG:=h.lt;have kA:=h.base;have uP:Hid (zK g e=if df g e≠0 then df g e else if e.qty=leftAt g.l e.id then 0 else 7):=by show _ = _;simp[zK,E]
 have vJ:Hid (takG g e=⟨g.nx,hitI g.l e.id e.qty,g.bg,g.cm,g.tk⟩):=by show _ = _;rw[takG,step6 E]
 have vV:Hid (∀k w',zK g e=k->k≠0->Kp G vq w w'->Chk G B r vq g e w (.panicked (brk k)) w'):=fun k w' Z Q I=>chk_no Z Q I;have vG:Hid (∀w' uB,zK g e=0->Kp G vq w w'->GS G B r w' uB (takG g e)->Chk G B r vq g e w (.returned (.tuple #[])) w'):=fun w' uB Z Q I=>chk_ok Z Q I;have qy:Hid (∀W,GS G B r W vq g->Calls Tryz.prog 118 #[h3 G 0,evV e] W fun x w'=>x=outR (df g e)/\yp W w'):=fun W hW=>start_any e W hW hi (by rw[E];decide) F;have HPC:Hid (df g e=0->GoodL g.l/\∃(k:Nat) (o:Od),plc g.l e.id=k/\g.l[k]? = some o):=fun h0=>⟨hi.good (.inl (by rw[(fq h0).1];decide)),by have Q:=(fq h0).2;simp only[da,E] at Q;obtain⟨k,o,a,b,_⟩:=plc_pos (ref_can Q);exact⟨k,o,a,b⟩⟩
 have HI:=U hi;generalize Chk G B r vq g e w=C at vV vG |-;generalize zK g e=ru at vV vG uP;generalize takG g e=g' at vJ vG;generalize df g e=sr at qy HPC uP;obtain⟨xn,⟨ck,cs,ct,cl,cq,ci,cp,cg⟩,id,xj,qty,xk,xi⟩:=e;simp only at E F
 try simp only at uP vJ
 unfold evV at qy;simp only at qy HPC;unfold evV;simp only;obtain⟨xS,HX⟩:=mh w (yw xn ck cs ct cl cq ci cp cg id xj qty xk xi) 78;have HS:Hid ((w.alloc (me (yw xn ck cs ct cl cq ci cp cg id xj qty xk xi).toArray 78)).heap.size=w.heap.size+1):=by show _ = _;simp
 have HG:=U (zw h xS);have HB:Hid (Kp G vq w (w.alloc (me (yw xn ck cs ct cl cq ci cp cg id xj qty xk xi).toArray 78))):=kp_of xS;clear h xS hi he E F;go_enter Tryz.func98,Tryz.ntmps98;refine mg fun hb HK=>?_;go_wp2_with fail;refine O HK _ _ ?_;clear HK;generalize (w.alloc (me (yw xn ck cs ct cl cq ci cp cg id xj qty xk xi).toArray 78))=W1 at HS HX HG HB |-;obtain⟨e0,e1,e2,e3,e4,e5,e6,e7,e8,e9,vQ,vY,qq,qF⟩:=yz (O HX);go_wp2_with fail;refine(O qy W1 (O HG)).mono ?_;rintro x w2 ⟨hx,xy⟩;have xR:=U (zl (O HX) xy (by have:=O HS;omega));have uf:=U (zw (O HG) xy);have xz:=U (dU (O HB) xy);have hS2:w.heap.size<w2.heap.size:=by have:=O HS;have:=xy.size;omega
 clear xy e0 e1 e2 e3 e4 e5 e6 e7 e8 e9 vQ vY qq qF
 by_cases hs:sr=0
 case neg =>
  rw[outR_no hs] at hx;subst hx;go_wp2_with fail;exact⟨rfl,O vV _ _ (by rw[O uP,if_pos hs]) hs (O xz)⟩
 rw[outR_ok hs] at hx;subst hx;have HSR:=U hs;have uw:=U (O uP);rw[if_neg (not_not_intro hs)] at uw;clear hs uP;obtain⟨jn,k,o,uO,oC⟩:=O HPC (O HSR);have xE:g.l ≠ []:=by intro h;rw[h] at oC;simp at oC
 have bX:=(yH.1 oC).1;obtain⟨gb,cap,rfl,xW,hBg,hgw⟩:=iG (O uf).row xE;rw[leftAt_at uO oC] at uw;have pe:=jn.left o (yP oC);have hln:=(O HI).len;have uL:Hid (w2.cell? (Y gb (k*6+3))=some (H o.left)):=(ie (O uf).row (by omega) oC).1 3 _ rfl;have qj:=U (zZ (O uf).row (by omega));have kU:=U uO;have bw:=U oC;have HOL:=U pe;have hkl':(k:Int)<g.l.length:=by omega
 have pP:(0:Int)<=k:=by omega
 have HRU3:=U (O uw);clear jn uO oC xE pe HPC hln uw;generalize hol2:o.left=ol at HRU3 uL;have HOE:=U hol2;clear hol2;go_wp2_with fail;refine zA (RWA (fun f=>{ tmps:=#[h3 G 0,.agg (yw xn ck cs ct cl cq ci cp cg id xj qty xk xi).toArray,M,h3 w.heap.size 0,h3 G 0,.agg (yw xn ck cs ct cl cq ci cp cg id xj qty xk xi).toArray,.tuple #[],f 0,f 1,f 2,f 3,f 4,f 5,f 6,f 7,f 8,f 9,f 10,f 11,f 12,f 13,f 14,f 15,f 16,f 17,f 18,M,M,M,M,M,M,M,M],defers:=[] }) (CVw [some (h3 w.heap.size 11),some (H qty),some (h3 G 0),some (h3 G 0),some (h3 G 1),some (h3 G 2),some (.slice (some (Y gb 0)) g.l.length cap),some (h3 G 0),some (h3 G 0),some (h3 G 1),some (.agg #[H g.nx,.slice (some (Y gb 0)) g.l.length cap]),some (h3 w.heap.size 9),some (H id),some (H k),some (h3 gb (k*6)),some (h3 gb (k*6+3)),some (H ol),some (.bool (qty==ol)),some (.tuple #[])] (fun j=>j=18->qty=ol)) 18 (fun V=>V) w2) (by kernel_rfl) ?_ ?_ ?_
 ·exact⟨fun _=>M,rfl,⟨fun j hj=>by rw[yJ] at hj;split at hj <;> simp at hj,fun _=>⟨rfl,rfl,rfl,Nat.le_refl _,fun _ _=>rfl⟩,fun hj=>by rw[yJ] at hj;split at hj <;> simp at hj⟩⟩
 ·rintro x md V ⟨f,rfl,hR⟩ hx xY;have xq:=eM xY hx (acyc _ (by kernel_rfl));obtain⟨V0,xS,eV⟩:=hR.m (xq 18 (by simp));have hqe:=(hR.c 18 (xq 18 (by simp))).2 rfl;have HQ:=U (O HRU3);rw[if_pos hqe] at HQ;subst eV;have xH:=U (zl (O xR) xS hS2);have uX:=U (zw (O uf) xS);have xQ:=U (dU (O xz) xS);clear hR xq xY hx xS uL qj HRU3;generalize f 0=v0,f 1=v1,f 2=v2,f 3=v3,f 4=v4,f 5=v5,f 6=v6,f 7=v7,f 8=v8,f 9=v9,f 10=v10,f 11=v11,f 12=v12,f 13=v13,f 14=v14,f 15=v15,f 16=v16,f 17=v17,f 18=v18;subst hqe;dsimp only;go_wp2_with fail;have qz:Hid (Bx V.drew w.heap.size (yw xn ck cs ct cl cq ci cp cg id xj qty xk xi)):=dK (O xH);have uE:Hid (GS G B r V.drew (.slice (some (Y gb 0)) g.l.length cap) g):=zw (O uX) ⟨rfl,rfl,rfl,Nat.le_refl _,fun _ _=>rfl⟩;have uY:Hid (Kp G (.slice (some (Y gb 0)) g.l.length cap) w V.drew):=ip (O xQ);have e9:=J (O qz) 9 rfl;have vY:=J (O qz) 11 rfl;refine ff 7 (by kernel_rfl) (by kernel_rfl) ?_;simp only[yU,List.take_zero,yV,List.drop_zero]
  repeat still_step
  refine wpStill_nil ?_;go_wp2_with fail;refine(lu G 1 B g.nx id qty _ g.l k o _ (J (O uE).box 1 rfl) (J (O uE).box 2 rfl) (zg (O uE).box 2 (by show 2<16;decide)) (O uE).row (O uE).nq (O uE).lt (O uE).base (yO (O HI).len (by decide)) (O kU) (O bw) (by have:=O HOL;have:=O HOE;omega) (by have:=O HOE;omega) (O HOL).2).mono ?_;rintro e w9 ⟨uB,rfl,hc9,ho9,cX⟩;have HG9:=U (gs_took (O uE) hc9 ho9 cX);have jh:=U (kp_took (O uY) cX);clear hc9 ho9 cX;go_wp2_with fail;go_end0;refine O vG _ uB (O HQ) (O jh) ?_;rw[O vJ];simp only[gE (O kU) (O bw)];exact O HG9
 ·rintro x md V i op ⟨f,rfl,hR⟩ xo hx D xA X;have xJ:=U hR
  have nw:i<18->x[18]? = some false:=fun xK=>by
   rcases fD hx (show 18<19 by omega) with hq|hw
   ·exact hq
   ·exfalso;have kz:=yh xo 18 rfl hw 17 rfl;have Z:=yh xo 17 rfl kz 1 rfl;have h0:=yh xo 1 rfl Z 0 rfl;have h16:=yh xo 17 rfl kz 16 rfl;have jF:=yh xo 16 rfl h16 15 rfl;have bQ:=yh xo 15 rfl jF 14 rfl;have h6:=yh xo 14 rfl bQ 6 rfl;have pM:=yh xo 14 rfl bQ 13 rfl;have h5:=yh xo 6 rfl h6 5 rfl;have h4:=yh xo 5 rfl h5 4 rfl;have I:=yh xo 4 rfl h4 3 rfl;have Q:=yh xo 3 rfl I 2 rfl;have vj:=yh xo 13 rfl pM 10 rfl;have qP:=yh xo 13 rfl pM 12 rfl;have h9:=yh xo 10 rfl vj 9 rfl;have h8:=yh xo 9 rfl h9 8 rfl;have h7:=yh xo 8 rfl h8 7 rfl;have jS:=yh xo 12 rfl qP 11 rfl;rcases(by omega:i=0\/i=1\/i=2\/i=3\/i=4\/i=5\/i=6\/i=7\/i=8\/i=9\/i=10\/i=11\/i=12\/i=13\/i=14\/i=15\/i=16\/i=17) with rfl|rfl|rfl|rfl|rfl|rfl|rfl|rfl|rfl|rfl|rfl|rfl|rfl|rfl|rfl|rfl|rfl|rfl
    ·exact absurd (h0.symm.trans xA) (by simp)
    ·exact absurd (Z.symm.trans xA) (by simp)
    ·exact absurd (Q.symm.trans xA) (by simp)
    ·exact absurd (I.symm.trans xA) (by simp)
    ·exact absurd (h4.symm.trans xA) (by simp)
    ·exact absurd (h5.symm.trans xA) (by simp)
    ·exact absurd (h6.symm.trans xA) (by simp)
    ·exact absurd (h7.symm.trans xA) (by simp)
    ·exact absurd (h8.symm.trans xA) (by simp)
    ·exact absurd (h9.symm.trans xA) (by simp)
    ·exact absurd (vj.symm.trans xA) (by simp)
    ·exact absurd (jS.symm.trans xA) (by simp)
    ·exact absurd (qP.symm.trans xA) (by simp)
    ·exact absurd (pM.symm.trans xA) (by simp)
    ·exact absurd (bQ.symm.trans xA) (by simp)
    ·exact absurd (jF.symm.trans xA) (by simp)
    ·exact absurd (h16.symm.trans xA) (by simp)
    ·exact absurd (kz.symm.trans xA) (by simp)
  have vw:i<18->yp w2 V:=fun h=>hR.b (nw h);have xm:i<18->∀(p:Addr) u,w2.cell? p=some u->V.cell? p=some u:=fun h p u hu=>((vw h).cell (yL w2 _ hu)).trans hu
  match i,D with
  | 0,D =>
   cases D;have CL:=xm (by omega);clear X hR vw xm nw CL;go_simp;exact⟨upd f 0 (h3 w.heap.size 11),by simp[upd],dx (O xJ) 0 _ ⟨yj rfl,(by intro h;cases h)⟩ (by decide)⟩
  | 1,D =>
   cases D;have g0:=(hR.c 0 (yf X 0 rfl)).1 _ rfl;have CL:=xm (by omega);have z:=CL (Y w.heap.size 11) _ (J (O xR) 11 rfl);clear X hR vw xm nw CL;go_simp;exact⟨upd f 1 (H qty),by simp[upd,g0],dx (O xJ) 1 _ ⟨yj rfl,(by intro h;cases h)⟩ (by decide)⟩
  | 2,D|7,D =>
   cases D;have CL:=xm (by omega);clear X hR vw xm nw CL;go_simp;exact⟨upd f _ (h3 G 0),by simp[upd],dx (O xJ) _ _ ⟨yj rfl,(by intro h;cases h)⟩ (by decide)⟩
  | 3,D =>
   cases D;have g2:=(hR.c 2 (yf X 2 rfl)).1 _ rfl;have CL:=xm (by omega);clear X hR vw xm nw CL;go_simp;exact⟨upd f 3 (h3 G 0),by simp[upd,g2],dx (O xJ) 3 _ ⟨yj rfl,(by intro h;cases h)⟩ (by decide)⟩
  | 4,D =>
   cases D;have g3:=(hR.c 3 (yf X 3 rfl)).1 _ rfl;have CL:=xm (by omega);clear X hR vw xm nw CL;go_simp;exact⟨upd f 4 (h3 G 1),by simp[upd,g3],dx (O xJ) 4 _ ⟨yj rfl,(by intro h;cases h)⟩ (by decide)⟩
  | 5,D =>
   cases D;have g4:=(hR.c 4 (yf X 4 rfl)).1 _ rfl;have CL:=xm (by omega);clear X hR vw xm nw CL;go_simp;exact⟨upd f 5 (h3 G 2),by simp[upd,g4],dx (O xJ) 5 _ ⟨yj rfl,(by intro h;cases h)⟩ (by decide)⟩
  | 6,D =>
   cases D;have g5:=(hR.c 5 (yf X 5 rfl)).1 _ rfl;have CL:=xm (by omega);have z:=CL (Y G 2) _ (J (O uf).box 2 rfl);clear X hR vw xm nw CL;go_simp;exact⟨upd f 6 (.slice (some (Y gb 0)) g.l.length cap),by simp[upd,g5],dx (O xJ) 6 _ ⟨yj rfl,(by intro h;cases h)⟩ (by decide)⟩
  | 8,D =>
   cases D;have g7:=(hR.c 7 (yf X 7 rfl)).1 _ rfl;have CL:=xm (by omega);clear X hR vw xm nw CL;go_simp;exact⟨upd f 8 (h3 G 0),by simp[upd,g7],dx (O xJ) 8 _ ⟨yj rfl,(by intro h;cases h)⟩ (by decide)⟩
  | 9,D =>
   cases D;have g8:=(hR.c 8 (yf X 8 rfl)).1 _ rfl;have CL:=xm (by omega);clear X hR vw xm nw CL;go_simp;exact⟨upd f 9 (h3 G 1),by simp[upd,g8],dx (O xJ) 9 _ ⟨yj rfl,(by intro h;cases h)⟩ (by decide)⟩
  | 10,D =>
   cases D;have g9:=(hR.c 9 (yf X 9 rfl)).1 _ rfl;have CL:=xm (by omega);have z1:=CL (Y G 1) _ (J (O uf).box 1 rfl);have z2:=CL (Y G 2) _ (J (O uf).box 2 rfl);clear X hR vw xm nw CL;go_simp;exact⟨upd f 10 (.agg #[H g.nx,.slice (some (Y gb 0)) g.l.length cap]),by simp[upd,g9],dx (O xJ) 10 _ ⟨yj rfl,(by intro h;cases h)⟩ (by decide)⟩
  | 11,D =>
   cases D;have CL:=xm (by omega);clear X hR vw xm nw CL;go_simp;exact⟨upd f 11 (h3 w.heap.size 9),by simp[upd],dx (O xJ) 11 _ ⟨yj rfl,(by intro h;cases h)⟩ (by decide)⟩
  | 12,D =>
   cases D;have jR:=(hR.c 11 (yf X 11 rfl)).1 _ rfl;have CL:=xm (by omega);have z:=CL (Y w.heap.size 9) _ (J (O xR) 9 rfl);clear X hR vw xm nw CL;go_simp;exact⟨upd f 12 (H id),by simp[upd,jR],dx (O xJ) 12 _ ⟨yj rfl,(by intro h;cases h)⟩ (by decide)⟩
  | 13,D =>
   cases D;have kN:=(hR.c 10 (yf X 10 rfl)).1 _ rfl;have ql:=(hR.c 12 (yf X 12 rfl)).1 _ rfl;have CL:=xm (by omega);have hw:=nw (by omega);have HRV:=U (zq (O qj) (vw (by omega)) yb);clear X hR vw xm nw CL;go_simp;refine(iW g.nx _ g.l id V (O HRV)).mono ?_;rw[O kU];rintro e w4 ⟨rfl,xF⟩;exact⟨upd f 13 (H k),by simp[upd,kN,ql],dx (rw_grow (O xJ) hw xF) 13 _ ⟨yj rfl,(by intro h;cases h)⟩ (by decide)⟩
  | 14,D =>
   cases D;have g6:=(hR.c 6 (yf X 6 rfl)).1 _ rfl;have pA:=(hR.c 13 (yf X 13 rfl)).1 _ rfl;have CL:=xm (by omega);clear X hR vw xm nw CL;go_simp;exact⟨upd f 14 (h3 gb (k*6)),by simp[upd,g6,pA],dx (O xJ) 14 _ ⟨yj rfl,(by intro h;cases h)⟩ (by decide)⟩
  | 15,D =>
   cases D;have bP:=(hR.c 14 (yf X 14 rfl)).1 _ rfl;have CL:=xm (by omega);clear X hR vw xm nw CL;go_simp;exact⟨upd f 15 (h3 gb (k*6+3)),by simp[upd,bP],dx (O xJ) 15 _ ⟨yj rfl,(by intro h;cases h)⟩ (by decide)⟩
  | 16,D =>
   cases D;have g15:=(hR.c 15 (yf X 15 rfl)).1 _ rfl;have CL:=xm (by omega);have z:=CL (Y gb (k*6+3)) _ (O uL);clear X hR vw xm nw CL;go_simp;exact⟨upd f 16 (H ol),by simp[upd,g15],dx (O xJ) 16 _ ⟨yj rfl,(by intro h;cases h)⟩ (by decide)⟩
  | 17,D =>
   cases D;have g1:=(hR.c 1 (yf X 1 rfl)).1 _ rfl;have g16:=(hR.c 16 (yf X 16 rfl)).1 _ rfl;have CL:=xm (by omega);clear X hR vw xm nw CL;go_simp;exact⟨upd f 17 (.bool (qty==ol)),by simp[upd,g1,g16],dx (O xJ) 17 _ ⟨yj rfl,(by intro h;cases h)⟩ (by decide)⟩
  | 18,D =>
   cases D;have g17:=(hR.c 17 (yf X 17 rfl)).1 _ rfl;have uC:=U (dU (O xz) (hR.b xA));clear X hR vw xm nw;go_simp
   by_cases hqe:qty=ol
   ·have bq:(qty==ol)=true:=by simpa using hqe
    have hd:=eB 7 V;rw[<- bq] at hd;refine hd.mono ?_;rintro e w4 ⟨rfl,rfl⟩;exact⟨upd f 18 (.tuple #[]),by simp[upd,g17,bq],rw_lastv (T:=fun V=>V) (O xJ) xA ⟨yj rfl,fun _=>hqe⟩⟩
   ·have bq:(qty==ol)=false:=by simpa using hqe
    have hd:=eh 7 V;rw[<- bq] at hd;refine hd.mono ?_;rintro e w4 ⟨rfl,rfl⟩;have HQ:=U (O HRU3);rw[if_neg hqe] at HQ;clear hqe bq;go_wp2_with fail;exact⟨rfl,O vV 7 _ (O HQ) (by decide) (O uC)⟩
  | i+19,D=>simp at D
theorem rest_chk {G B r:Nat}{vq:Value}{g:Gr}(e:Ev)(w:World)(h:GS G B r w vq g)(hi:GI g)(he:okE e=true)(E:e.kind=4)(F:e.cmd.g.size<=maxLen):Calls Tryz.prog 96 #[h3 G 0,evV e] w fun x w'=>Chk G B r vq g e w x w':=by
 have hsf:=sfl;have hG:=h.lt;have kA:=h.base;have uP:Hid (zK g e=if dueR g e≠0 then dueR g e else if dW e (dueG g)=true then 0 else 13):=by show _ = _;simp[zK,E]
 have vJ:Hid (takG g e=⟨g.nx,g.l ++ [g.tk],g.bg,g.cm,{ g.tk with left:=0 }⟩):=by show _ = _;rw[takG,step4 E]
 have vV:Hid (∀k w',zK g e=k->k≠0->Kp G vq w w'->Chk G B r vq g e w (.panicked (brk k)) w'):=fun k w' Z Q I=>chk_no Z Q I;have vG:Hid (∀w' uB,zK g e=0->Kp G vq w w'->GS G B r w' uB (takG g e)->Chk G B r vq g e w (.returned (.tuple #[])) w'):=fun w' uB Z Q I=>chk_ok Z Q I;have kt:Hid (∀W,GS G B r W vq g->Calls Tryz.prog 123 #[h3 G 0,evV e] W fun x w'=>x=outD (dueR g e) (dueG g)/\yp W w'):=fun W hW=>lA e W hW hi;have bu:Hid (∀W,Calls Tryz.prog 125 #[evV e,duV (dueG g)] W fun r w'=>r = .returned (.bool (dW e (dueG g)))/\yp W w'):=fun W=>isJust_any e (dueG g) W;have HR45:Hid (zK g e=0->g.bg=1/\g.tk.left≠0):=rule45 (by omega);have HI:=U hi;generalize Chk G B r vq g e w=C at vV vG |-;generalize zK g e=ru at vV vG uP HR45;generalize takG g e=g' at vJ vG;generalize dueR g e=dr at kt uP;generalize dW e (dueG g)=jb at bu uP;generalize dueG g=d at kt bu;obtain⟨xn,⟨ck,cs,ct,cl,cq,ci,cp,cg⟩,id,xj,qty,xk,xi⟩:=e;simp only at E F
 try simp only at uP vJ
 obtain⟨dk,di,dt,dq,dp⟩:=d;unfold evV at kt bu;unfold duV at bu;simp only at kt bu;unfold evV;simp only;obtain⟨xS,HX⟩:=mh w (yw xn ck cs ct cl cq ci cp cg id xj qty xk xi) 78;have HS:Hid ((w.alloc (me (yw xn ck cs ct cl cq ci cp cg id xj qty xk xi).toArray 78)).heap.size=w.heap.size+1):=by show _ = _;simp
 have HG:=U (zw h xS);have HB:Hid (Kp G vq w (w.alloc (me (yw xn ck cs ct cl cq ci cp cg id xj qty xk xi).toArray 78))):=kp_of xS;clear h xS hi he E F;go_enter Tryz.func96,Tryz.ntmps96;refine mg fun hb HK=>?_;go_wp2_with fail;refine O HK _ _ ?_;clear HK;generalize (w.alloc (me (yw xn ck cs ct cl cq ci cp cg id xj qty xk xi).toArray 78))=W1 at HS HX HG HB |-;go_wp2_with fail;refine zA (RWA (fun f=>{ tmps:=#[h3 G 0,.agg (yw xn ck cs ct cl cq ci cp cg id xj qty xk xi).toArray,M,h3 w.heap.size 0,f 0,f 1,f 2,f 3,f 4,f 5,M,M,M,M,M,M,M,M,M,M,M,M,M,M,M,M,M,M,M],defers:=[] }) (CVw [some (.agg (yw xn ck cs ct cl cq ci cp cg id xj qty xk xi).toArray),some (h3 G 0),some (.agg (yw xn ck cs ct cl cq ci cp cg id xj qty xk xi).toArray),some (.agg #[H dk,H di,H dt,H dq,H dp]),some (.bool jb),some (.tuple #[])] (fun j=>(j=3->dr=0)/\(j=5->jb=true))) 5 (fun V=>V) W1) (by kernel_rfl) ?_ ?_ ?_
 ·exact⟨fun _=>M,rfl,⟨fun j hj=>by rw[yJ] at hj;split at hj <;> simp at hj,fun _=>⟨rfl,rfl,rfl,Nat.le_refl _,fun _ _=>rfl⟩,fun hj=>by rw[yJ] at hj;split at hj <;> simp at hj⟩⟩
 ·rintro x md V ⟨f,rfl,hR⟩ hx xY;have xq:=eM xY hx (acyc _ (by kernel_rfl));obtain⟨V0,xS,eV⟩:=hR.m (xq 5 (by simp));have jm:=(hR.c 3 (xq 3 (by simp))).2.1 rfl;have hjb:=(hR.c 5 (xq 5 (by simp))).2.2 rfl;have HQ:=U (O uP);rw[if_neg (not_not_intro jm),if_pos hjb] at HQ;subst eV;have uX:=U (zw (O HG) xS);have xQ:=U (dU (O HB) xS);clear hR xq xY hx xS jm hjb uP kt bu HX HS HG HB;dsimp only;generalize f 0=v0,f 1=v1,f 2=v2,f 3=v3,f 4=v4,f 5=v5;obtain⟨i0,uo,ub,xX,uh⟩:=info_parts Tryz.infoOrder;have hln:g.l.length<=20:=((O HI).good (.inr (O HR45 (O HQ)).2)).len;go_wp2_with fail;have hj2:=J (O uX).box 2 rfl;have hf2:=zg (O uX).box 2 (by show 2<16;decide);have t10:=J (O uX).box 10 rfl;have t11:=J (O uX).box 11 rfl;have t12:=J (O uX).box 12 rfl;have t13:=J (O uX).box 13 rfl;have t14:=J (O uX).box 14 rfl;have t15:=J (O uX).box 15 rfl;have hGl:=(O uX).lt;have hnq:=(O uX).nq;have hBG:=(O uX).hG
  go_region_law ((refine step_append_lies _ (by rfl) _ _ _ (by rfl) B 71 i0 _ 6 56 Tryz.underlying29 uo ub xX uh rfl (by decide) _ g.l.length (g.l.flatMap Od.vs) (by rfl) (zn (O uX).row ((Below.refl V.heap.size V).alloc yb _).drew) (Y V.heap.size 0) 1 1 g.tk.vs (by rfl) rfl (cells_of_mk V g.tk.vs _) (one_od g.tk) (by decide) (by unfold maxLen;omega) (by omega) (by show B<=(V.alloc _).heap.size;rw[zi];omega) (V.heap.size+1) (by simp) ?_;intro gq cq w5 vA vR hat5 hlt5;have y2:=(vR.cell_far (Y G 2) (by show G<(V.alloc _).heap.size;rw[zi];omega) hnq).trans ((((Below.refl V.heap.size V).alloc yb _).drew.cell (p:=(Y G 2)) (by show G < _;omega)).trans hj2);have r2:=(vR.frozen_far (Y G 2) (by show G<(V.alloc _).heap.size;rw[zi];omega) hnq).trans ((World.frozen?_of_block (a:=(Y G 2)) (((Below.refl V.heap.size V).alloc yb _).drew.block G (by omega))).trans hf2)))
  all_goals
   have kC:yp V ((V.alloc (Obj.cells g.tk.vs.toArray 71)).drew):=((Below.refl V.heap.size V).alloc yb _).drew;have uN:V.grownBy w5 vq.ownBlock:=zr (ft kC yb) vR;have ht:TookAt G 1 vq.ownBlock V (w5.setCell (Y G 2) (.slice (some (Y gq 0)) (g.l.length+1) cq)):=gW (gK uN hGl hnq) (took_set (o:=1) _ _)
   have vL:∃xt,w5.heap[G]? = some (.cells xt 144 (0,0)):=by
    obtain⟨xt,Z⟩:=(O uX).typ;exact⟨xt,(uN.block G hGl hnq).trans Z⟩
   have hrw:ORow w5 B (.slice (some (Y gq 0)) (g.l.length+1) cq) (g.l ++ [g.tk]):=by show World.ownsRow _ _ _ _ _ _ _;rw[yQ,List.flatMap_append];simpa using vA
   have uE:=U (gs_took (O uX) (yN _ _ _ y2) (zX hrw (zF hrw vL (by decide)) 2 _) ht);have uY:=U (kp_took (O xQ) ht);clear vA vR hat5 hlt5 y2 r2 kC uN ht vL hrw;generalize (w5.setCell (Y G 2) (.slice (some (Y gq 0)) (g.l.length+1) cq))=ya at uE uY |-;have c13:=J (O uE).box 13 rfl;have q13:=zg (O uE).box 13 (by show 13<16;decide);go_wp2_with fail;go_end0;refine O vG _ (.slice (some (Y gq 0)) (g.l.length+1) cq) (O HQ) (kp_set (O uY) 13 _) ?_;rw[O vJ];exact gs_set (O uE) 13 _ (by decide) rfl rfl
 ·rintro x md V i op ⟨f,rfl,hR⟩ xo hx D xA X;have xJ:=U hR
  have nw:i<5->x[5]? = some false:=fun xK=>by
   rcases fD hx (show 5<6 by omega) with hq|hw
   ·exact hq
   ·exfalso;have h4:=yh xo 5 rfl hw 4 rfl;have h0:=yh xo 4 rfl h4 0 rfl;have I:=yh xo 4 rfl h4 3 rfl;have Z:=yh xo 3 rfl I 1 rfl;have Q:=yh xo 3 rfl I 2 rfl;rcases(by omega:i=0\/i=1\/i=2\/i=3\/i=4) with rfl|rfl|rfl|rfl|rfl
    ·exact absurd (h0.symm.trans xA) (by simp)
    ·exact absurd (Z.symm.trans xA) (by simp)
    ·exact absurd (Q.symm.trans xA) (by simp)
    ·exact absurd (I.symm.trans xA) (by simp)
    ·exact absurd (h4.symm.trans xA) (by simp)
  have vw:i<5->yp W1 V:=fun h=>hR.b (nw h);have xm:i<5->∀(p:Addr) u,W1.cell? p=some u->V.cell? p=some u:=fun h p u hu=>((vw h).cell (yL W1 _ hu)).trans hu
  match i,D with
  | 0,D|2,D =>
   cases D;have CL:=xm (by omega);have e0:=CL (Y w.heap.size 0) _ (J (O HX) 0 rfl);have e1:=CL (Y w.heap.size 1) _ (J (O HX) 1 rfl);have e2:=CL (Y w.heap.size 2) _ (J (O HX) 2 rfl);have e3:=CL (Y w.heap.size 3) _ (J (O HX) 3 rfl);have e4:=CL (Y w.heap.size 4) _ (J (O HX) 4 rfl);have e5:=CL (Y w.heap.size 5) _ (J (O HX) 5 rfl);have e6:=CL (Y w.heap.size 6) _ (J (O HX) 6 rfl);have e7:=CL (Y w.heap.size 7) _ (J (O HX) 7 rfl);have e8:=CL (Y w.heap.size 8) _ (J (O HX) 8 rfl);have e9:=CL (Y w.heap.size 9) _ (J (O HX) 9 rfl);have vQ:=CL (Y w.heap.size 10) _ (J (O HX) 10 rfl);have vY:=CL (Y w.heap.size 11) _ (J (O HX) 11 rfl);have qq:=CL (Y w.heap.size 12) _ (J (O HX) 12 rfl);have qF:=CL (Y w.heap.size 13) _ (J (O HX) 13 rfl);clear X hR vw xm nw CL;go_simp;exact⟨upd f _ (.agg (yw xn ck cs ct cl cq ci cp cg id xj qty xk xi).toArray),by simp[upd],dx (O xJ) _ _ ⟨yj rfl,⟨fun h=>absurd h (by decide),fun h=>absurd h (by decide)⟩⟩ (by decide)⟩
  | 1,D =>
   cases D;have CL:=xm (by omega);clear X hR vw xm nw CL;go_simp;exact⟨upd f 1 (h3 G 0),by simp[upd],dx (O xJ) 1 _ ⟨yj rfl,⟨fun h=>absurd h (by decide),fun h=>absurd h (by decide)⟩⟩ (by decide)⟩
  | 3,D =>
   cases D;have g1:=(hR.c 1 (yf X 1 rfl)).1 _ rfl;have g2:=(hR.c 2 (yf X 2 rfl)).1 _ rfl;have CL:=xm (by omega);have hw:=nw (by omega);have uC:=U (dU (O HB) (vw (by omega)));have HGV:=U (zw (O HG) (vw (by omega)));clear X hR vw xm nw CL;go_simp;refine(O kt V (O HGV)).mono ?_;rintro y w4 ⟨hy,xF⟩
   by_cases hs:dr=0
   ·rw[outD_ok hs] at hy;subst hy;exact⟨upd f 3 (.agg #[H dk,H di,H dt,H dq,H dp]),by simp[upd,g1,g2,duV],dx (rw_grow (O xJ) hw xF) 3 _ ⟨yj rfl,fun _=>hs,fun h=>absurd h (by decide)⟩ (by decide)⟩
   ·rw[outD_no hs] at hy;subst hy;have HQ:=U (O uP);rw[if_pos hs] at HQ;have HSS:=U hs;have uY:=U (dU (O uC) xF);clear hs xF;go_wp2_with fail;exact⟨rfl,O vV _ _ (O HQ) (O HSS) (O uY)⟩
  | 4,D =>
   cases D;have g0:=(hR.c 0 (yf X 0 rfl)).1 _ rfl;have g3:=(hR.c 3 (yf X 3 rfl)).1 _ rfl;have CL:=xm (by omega);have hw:=nw (by omega);clear X hR vw xm nw CL;go_simp;refine(O bu V).mono ?_;rintro y w4 ⟨rfl,xF⟩;exact⟨upd f 4 (.bool jb),by simp[upd,g0,g3],dx (rw_grow (O xJ) hw xF) 4 _ ⟨yj rfl,⟨fun h=>absurd h (by decide),fun h=>absurd h (by decide)⟩⟩ (by decide)⟩
  | 5,D =>
   cases D;have g4:=(hR.c 4 (yf X 4 rfl)).1 _ rfl;have uC:=U (dU (O HB) (hR.b xA));have h4:=X ⟨4,.data⟩ (by simp) rfl;have I:=yh xo 4 rfl h4 3 rfl;have jm:=(hR.c 3 I).2.1 rfl;have HQ:=U (O uP);rw[if_neg (not_not_intro jm)] at HQ;clear X hR vw xm nw h4 I jm;go_simp
   by_cases hj:jb=true
   ·have hd:=eB 13 V;rw[<- hj] at hd;refine hd.mono ?_;rintro e w4 ⟨rfl,rfl⟩;exact⟨upd f 5 (.tuple #[]),by simp[upd,g4],rw_lastv (T:=fun V=>V) (O xJ) xA ⟨yj rfl,fun h=>absurd h (by decide),fun _=>hj⟩⟩
   ·have hj2:jb=false:=by simpa using hj
    have hd:=eh 13 V;rw[<- hj2] at hd;refine hd.mono ?_;rintro e w4 ⟨rfl,rfl⟩;rw[if_neg hj] at HQ;clear hj hj2 hd;go_wp2_with fail;exact⟨rfl,O vV 13 _ (O HQ) (by decide) (O uC)⟩
  | i+6,D=>simp at D
theorem totalsPayload_any (t:Tt)(ht:t.ok)(w:World) :
  Calls Tryz.prog 75 #[.agg #[H t.a,H t.b,H t.c,H t.d,H t.e,H t.f,H t.g,H t.h]] w fun e w'=>∃v,e=yn v/\BRow w' w.heap.size v (pay t.ns)/\yp w w':=by
 obtain⟨i0,uo,ub,xX,uh⟩:=info_parts Tryz.infoByte;obtain⟨n0,n1,n2,n3,n4,n5,n6,n7⟩:=t;have jj:Hid (∀n ∈ [n0,n1,n2,n3,n4,n5,n6,n7],I6 n):=ht;clear ht;show Calls _ _ _ _ fun e w'=>∃v,e=yn v/\BRow w' w.heap.size v (pay [n0,n1,n2,n3,n4,n5,n6,n7])/\yp w w';simp only;have ud:=mc w (me #[H n0,H n1,H n2,H n3,H n4,H n5,H n6,H n7] 44);have ui:=U ud;have vO:Hid (World.rangeAt (w.alloc (me #[H n0,H n1,H n2,H n3,H n4,H n5,H n6,H n7] 44)) w.heap.size 0 [H n0,H n1,H n2,H n3,H n4,H n5,H n6,H n7]):=lJ w [H n0,H n1,H n2,H n3,H n4,H n5,H n6,H n7] _;clear ud;go_enter Tryz.func75,Tryz.ntmps75;refine mg fun hb xw=>?_;go_wp2_with fail;refine O xw _ _ ?_;clear xw;generalize (w.alloc (me #[H n0,H n1,H n2,H n3,H n4,H n5,H n6,H n7] 44))=xh at ui vO |-;obtain⟨z0,z1,z2,z3,z4,z5,z6,z7⟩:=yE (O vO);refine mg fun hb xw=>?_;go_wp2_with fail;refine O xw _ _ ?_;clear xw;refine mg fun hb xw=>?_;go_wp2_with fail;clear z0 z1 z2 z3 z4 z5 z6 z7;go_loopw [3,23] (fun ov iv wr=>∃(k:Nat),k<=8/\iv=H k/\Hid (BRow wr xh.heap.size ov (pay ([n0,n1,n2,n3,n4,n5,n6,n7].take k))/\yp xh wr)) (fun _ iv _=>8-(intOf iv).toNat)
 case atStart=>exact⟨0,by omega,rfl,World.ownsRow_nil _ _ _ _,Below.refl _ _⟩
 case round =>
  obtain⟨k,E,rfl,ue⟩:=hrel
  by_cases xK:k<8
  ·rcases(by omega:k=0\/k=1\/k=2\/k=3\/k=4\/k=5\/k=6\/k=7) with rfl|rfl|rfl|rfl|rfl|rfl|rfl|rfl
   ·have uM:Hid (pay ([n0,n1,n2,n3,n4,n5,n6,n7].take (0+1))=pay ([n0,n1,n2,n3,n4,n5,n6,n7].take 0)++putU (zz n0)):=gD [n0,n1,n2,n3,n4,n5,n6,n7] rfl;have um:=O jj n0 (by simp);obtain⟨xN,xl⟩:=O ue;have uJ:=eZ ([n0,n1,n2,n3,n4,n5,n6,n7].take 0) (fun m hm=>O jj m (List.mem_of_mem_take hm));have qY:(pay ([n0,n1,n2,n3,n4,n5,n6,n7].take 0)).length<=80:=yO uJ (by simp);generalize pay ([n0,n1,n2,n3,n4,n5,n6,n7].take 0)=L at xN uM qY;have oy:=U xN;have uC:=U xl;clear xN xl uJ ue;have bV:∀W:World,Sem.run Tryz.prog (Instr.index 156 (.agg #[H n0,H n1,H n2,H n3,H n4,H n5,H n6,H n7]) (H 0)) W = .ok (H n0) W:=fun W=>by kernel_rfl
    go_wp2_with fail;clear bV;refine(gH n0 wr um.1 um.2).mono ?_;rintro e w2 ⟨v2,rfl,ur,xy⟩;have vj:=zH _ (dy n0 um.1 um.2);obtain⟨g,cp,rfl,jn,vd⟩:=gj ur;have uk:=U vd;have vv:=U (zQ (O oy) xy);have jD:Hid (xh.heap.size<=w2.heap.size):=yO (O uC).size xy.size;have xz:=U (mf (O uC) xy);clear ur xy vd;generalize putU (zz n0)=P at uM vj uk |-;go_wp2_with (at_builtin;go_must (refine wpList_append_own _ rfl _ _ 22 rfl xh.heap.size 5 i0 _ 1 1 Tryz.underlying22 uo ub xX uh rfl (by decide) (u3) _ _ rfl (O vv) (Y g 0) _ cp ((P).map (Value.int .u8)) rfl (by simp) (O uk) (one_b _) (by unfold maxLen;omega) (by omega) (O jD) ?_);intro v3 w3 xu F _;have vD:=U xu;have vu:=U F;clear xu F)
    have HN:Hid (BRow w3 xh.heap.size v3 (pay ([n0,n1,n2,n3,n4,n5,n6,n7].take (0+1)))/\yp xh w3):=by
     rw[O uM];exact⟨eL (O vD),(O xz).grown (O vu) (O xz).size (fun q hq=>((O vv).lt q hq).1)⟩
    clear vD vu;go_wp2_with fail;go_roundw
    case rel=>exact⟨0+1,by omega,by go_num,O HN⟩
    case measure=>simp[intOf]
   ·have uM:Hid (pay ([n0,n1,n2,n3,n4,n5,n6,n7].take (1+1))=pay ([n0,n1,n2,n3,n4,n5,n6,n7].take 1)++putU (zz n1)):=gD [n0,n1,n2,n3,n4,n5,n6,n7] rfl;have um:=O jj n1 (by simp);obtain⟨xN,xl⟩:=O ue;have uJ:=eZ ([n0,n1,n2,n3,n4,n5,n6,n7].take 1) (fun m hm=>O jj m (List.mem_of_mem_take hm));have qY:(pay ([n0,n1,n2,n3,n4,n5,n6,n7].take 1)).length<=80:=yO uJ (by simp);generalize pay ([n0,n1,n2,n3,n4,n5,n6,n7].take 1)=L at xN uM qY;have oy:=U xN;have uC:=U xl;clear xN xl uJ ue;have bV:∀W:World,Sem.run Tryz.prog (Instr.index 156 (.agg #[H n0,H n1,H n2,H n3,H n4,H n5,H n6,H n7]) (H 1)) W = .ok (H n1) W:=fun W=>by kernel_rfl
    go_wp2_with fail;clear bV;refine(gH n1 wr um.1 um.2).mono ?_;rintro e w2 ⟨v2,rfl,ur,xy⟩;have vj:=zH _ (dy n1 um.1 um.2);obtain⟨g,cp,rfl,jn,vd⟩:=gj ur;have uk:=U vd;have vv:=U (zQ (O oy) xy);have jD:Hid (xh.heap.size<=w2.heap.size):=yO (O uC).size xy.size;have xz:=U (mf (O uC) xy);clear ur xy vd;generalize putU (zz n1)=P at uM vj uk |-;go_wp2_with (at_builtin;go_must (refine wpList_append_own _ rfl _ _ 22 rfl xh.heap.size 5 i0 _ 1 1 Tryz.underlying22 uo ub xX uh rfl (by decide) (u3) _ _ rfl (O vv) (Y g 0) _ cp ((P).map (Value.int .u8)) rfl (by simp) (O uk) (one_b _) (by unfold maxLen;omega) (by omega) (O jD) ?_);intro v3 w3 xu F _;have vD:=U xu;have vu:=U F;clear xu F)
    have HN:Hid (BRow w3 xh.heap.size v3 (pay ([n0,n1,n2,n3,n4,n5,n6,n7].take (1+1)))/\yp xh w3):=by
     rw[O uM];exact⟨eL (O vD),(O xz).grown (O vu) (O xz).size (fun q hq=>((O vv).lt q hq).1)⟩
    clear vD vu;go_wp2_with fail;go_roundw
    case rel=>exact⟨1+1,by omega,by go_num,O HN⟩
    case measure=>simp[intOf]
   ·have uM:Hid (pay ([n0,n1,n2,n3,n4,n5,n6,n7].take (2+1))=pay ([n0,n1,n2,n3,n4,n5,n6,n7].take 2)++putU (zz n2)):=gD [n0,n1,n2,n3,n4,n5,n6,n7] rfl;have um:=O jj n2 (by simp);obtain⟨xN,xl⟩:=O ue;have uJ:=eZ ([n0,n1,n2,n3,n4,n5,n6,n7].take 2) (fun m hm=>O jj m (List.mem_of_mem_take hm));have qY:(pay ([n0,n1,n2,n3,n4,n5,n6,n7].take 2)).length<=80:=yO uJ (by simp);generalize pay ([n0,n1,n2,n3,n4,n5,n6,n7].take 2)=L at xN uM qY;have oy:=U xN;have uC:=U xl;clear xN xl uJ ue;have bV:∀W:World,Sem.run Tryz.prog (Instr.index 156 (.agg #[H n0,H n1,H n2,H n3,H n4,H n5,H n6,H n7]) (H 2)) W = .ok (H n2) W:=fun W=>by kernel_rfl
    go_wp2_with fail;clear bV;refine(gH n2 wr um.1 um.2).mono ?_;rintro e w2 ⟨v2,rfl,ur,xy⟩;have vj:=zH _ (dy n2 um.1 um.2);obtain⟨g,cp,rfl,jn,vd⟩:=gj ur;have uk:=U vd;have vv:=U (zQ (O oy) xy);have jD:Hid (xh.heap.size<=w2.heap.size):=yO (O uC).size xy.size;have xz:=U (mf (O uC) xy);clear ur xy vd;generalize putU (zz n2)=P at uM vj uk |-;go_wp2_with (at_builtin;go_must (refine wpList_append_own _ rfl _ _ 22 rfl xh.heap.size 5 i0 _ 1 1 Tryz.underlying22 uo ub xX uh rfl (by decide) (u3) _ _ rfl (O vv) (Y g 0) _ cp ((P).map (Value.int .u8)) rfl (by simp) (O uk) (one_b _) (by unfold maxLen;omega) (by omega) (O jD) ?_);intro v3 w3 xu F _;have vD:=U xu;have vu:=U F;clear xu F)
    have HN:Hid (BRow w3 xh.heap.size v3 (pay ([n0,n1,n2,n3,n4,n5,n6,n7].take (2+1)))/\yp xh w3):=by
     rw[O uM];exact⟨eL (O vD),(O xz).grown (O vu) (O xz).size (fun q hq=>((O vv).lt q hq).1)⟩
    clear vD vu;go_wp2_with fail;go_roundw
    case rel=>exact⟨2+1,by omega,by go_num,O HN⟩
    case measure=>simp[intOf]
   ·have uM:Hid (pay ([n0,n1,n2,n3,n4,n5,n6,n7].take (3+1))=pay ([n0,n1,n2,n3,n4,n5,n6,n7].take 3)++putU (zz n3)):=gD [n0,n1,n2,n3,n4,n5,n6,n7] rfl;have um:=O jj n3 (by simp);obtain⟨xN,xl⟩:=O ue;have uJ:=eZ ([n0,n1,n2,n3,n4,n5,n6,n7].take 3) (fun m hm=>O jj m (List.mem_of_mem_take hm));have qY:(pay ([n0,n1,n2,n3,n4,n5,n6,n7].take 3)).length<=80:=yO uJ (by simp);generalize pay ([n0,n1,n2,n3,n4,n5,n6,n7].take 3)=L at xN uM qY;have oy:=U xN;have uC:=U xl;clear xN xl uJ ue;have bV:∀W:World,Sem.run Tryz.prog (Instr.index 156 (.agg #[H n0,H n1,H n2,H n3,H n4,H n5,H n6,H n7]) (H 3)) W = .ok (H n3) W:=fun W=>by kernel_rfl
    go_wp2_with fail;clear bV;refine(gH n3 wr um.1 um.2).mono ?_;rintro e w2 ⟨v2,rfl,ur,xy⟩;have vj:=zH _ (dy n3 um.1 um.2);obtain⟨g,cp,rfl,jn,vd⟩:=gj ur;have uk:=U vd;have vv:=U (zQ (O oy) xy);have jD:Hid (xh.heap.size<=w2.heap.size):=yO (O uC).size xy.size;have xz:=U (mf (O uC) xy);clear ur xy vd;generalize putU (zz n3)=P at uM vj uk |-;go_wp2_with (at_builtin;go_must (refine wpList_append_own _ rfl _ _ 22 rfl xh.heap.size 5 i0 _ 1 1 Tryz.underlying22 uo ub xX uh rfl (by decide) (u3) _ _ rfl (O vv) (Y g 0) _ cp ((P).map (Value.int .u8)) rfl (by simp) (O uk) (one_b _) (by unfold maxLen;omega) (by omega) (O jD) ?_);intro v3 w3 xu F _;have vD:=U xu;have vu:=U F;clear xu F)
    have HN:Hid (BRow w3 xh.heap.size v3 (pay ([n0,n1,n2,n3,n4,n5,n6,n7].take (3+1)))/\yp xh w3):=by
     rw[O uM];exact⟨eL (O vD),(O xz).grown (O vu) (O xz).size (fun q hq=>((O vv).lt q hq).1)⟩
    clear vD vu;go_wp2_with fail;go_roundw
    case rel=>exact⟨3+1,by omega,by go_num,O HN⟩
    case measure=>simp[intOf]
   ·have uM:Hid (pay ([n0,n1,n2,n3,n4,n5,n6,n7].take (4+1))=pay ([n0,n1,n2,n3,n4,n5,n6,n7].take 4)++putU (zz n4)):=gD [n0,n1,n2,n3,n4,n5,n6,n7] rfl;have um:=O jj n4 (by simp);obtain⟨xN,xl⟩:=O ue;have uJ:=eZ ([n0,n1,n2,n3,n4,n5,n6,n7].take 4) (fun m hm=>O jj m (List.mem_of_mem_take hm));have qY:(pay ([n0,n1,n2,n3,n4,n5,n6,n7].take 4)).length<=80:=yO uJ (by simp);generalize pay ([n0,n1,n2,n3,n4,n5,n6,n7].take 4)=L at xN uM qY;have oy:=U xN;have uC:=U xl;clear xN xl uJ ue;have bV:∀W:World,Sem.run Tryz.prog (Instr.index 156 (.agg #[H n0,H n1,H n2,H n3,H n4,H n5,H n6,H n7]) (H 4)) W = .ok (H n4) W:=fun W=>by kernel_rfl
    go_wp2_with fail;clear bV;refine(gH n4 wr um.1 um.2).mono ?_;rintro e w2 ⟨v2,rfl,ur,xy⟩;have vj:=zH _ (dy n4 um.1 um.2);obtain⟨g,cp,rfl,jn,vd⟩:=gj ur;have uk:=U vd;have vv:=U (zQ (O oy) xy);have jD:Hid (xh.heap.size<=w2.heap.size):=yO (O uC).size xy.size;have xz:=U (mf (O uC) xy);clear ur xy vd;generalize putU (zz n4)=P at uM vj uk |-;go_wp2_with (at_builtin;go_must (refine wpList_append_own _ rfl _ _ 22 rfl xh.heap.size 5 i0 _ 1 1 Tryz.underlying22 uo ub xX uh rfl (by decide) (u3) _ _ rfl (O vv) (Y g 0) _ cp ((P).map (Value.int .u8)) rfl (by simp) (O uk) (one_b _) (by unfold maxLen;omega) (by omega) (O jD) ?_);intro v3 w3 xu F _;have vD:=U xu;have vu:=U F;clear xu F)
    have HN:Hid (BRow w3 xh.heap.size v3 (pay ([n0,n1,n2,n3,n4,n5,n6,n7].take (4+1)))/\yp xh w3):=by
     rw[O uM];exact⟨eL (O vD),(O xz).grown (O vu) (O xz).size (fun q hq=>((O vv).lt q hq).1)⟩
    clear vD vu;go_wp2_with fail;go_roundw
    case rel=>exact⟨4+1,by omega,by go_num,O HN⟩
    case measure=>simp[intOf]
   ·have uM:Hid (pay ([n0,n1,n2,n3,n4,n5,n6,n7].take (5+1))=pay ([n0,n1,n2,n3,n4,n5,n6,n7].take 5)++putU (zz n5)):=gD [n0,n1,n2,n3,n4,n5,n6,n7] rfl;have um:=O jj n5 (by simp);obtain⟨xN,xl⟩:=O ue;have uJ:=eZ ([n0,n1,n2,n3,n4,n5,n6,n7].take 5) (fun m hm=>O jj m (List.mem_of_mem_take hm));have qY:(pay ([n0,n1,n2,n3,n4,n5,n6,n7].take 5)).length<=80:=yO uJ (by simp);generalize pay ([n0,n1,n2,n3,n4,n5,n6,n7].take 5)=L at xN uM qY;have oy:=U xN;have uC:=U xl;clear xN xl uJ ue;have bV:∀W:World,Sem.run Tryz.prog (Instr.index 156 (.agg #[H n0,H n1,H n2,H n3,H n4,H n5,H n6,H n7]) (H 5)) W = .ok (H n5) W:=fun W=>by kernel_rfl
    go_wp2_with fail;clear bV;refine(gH n5 wr um.1 um.2).mono ?_;rintro e w2 ⟨v2,rfl,ur,xy⟩;have vj:=zH _ (dy n5 um.1 um.2);obtain⟨g,cp,rfl,jn,vd⟩:=gj ur;have uk:=U vd;have vv:=U (zQ (O oy) xy);have jD:Hid (xh.heap.size<=w2.heap.size):=yO (O uC).size xy.size;have xz:=U (mf (O uC) xy);clear ur xy vd;generalize putU (zz n5)=P at uM vj uk |-;go_wp2_with (at_builtin;go_must (refine wpList_append_own _ rfl _ _ 22 rfl xh.heap.size 5 i0 _ 1 1 Tryz.underlying22 uo ub xX uh rfl (by decide) (u3) _ _ rfl (O vv) (Y g 0) _ cp ((P).map (Value.int .u8)) rfl (by simp) (O uk) (one_b _) (by unfold maxLen;omega) (by omega) (O jD) ?_);intro v3 w3 xu F _;have vD:=U xu;have vu:=U F;clear xu F)
    have HN:Hid (BRow w3 xh.heap.size v3 (pay ([n0,n1,n2,n3,n4,n5,n6,n7].take (5+1)))/\yp xh w3):=by
     rw[O uM];exact⟨eL (O vD),(O xz).grown (O vu) (O xz).size (fun q hq=>((O vv).lt q hq).1)⟩
    clear vD vu;go_wp2_with fail;go_roundw
    case rel=>exact⟨5+1,by omega,by go_num,O HN⟩
    case measure=>simp[intOf]
   ·have uM:Hid (pay ([n0,n1,n2,n3,n4,n5,n6,n7].take (6+1))=pay ([n0,n1,n2,n3,n4,n5,n6,n7].take 6)++putU (zz n6)):=gD [n0,n1,n2,n3,n4,n5,n6,n7] rfl;have um:=O jj n6 (by simp);obtain⟨xN,xl⟩:=O ue;have uJ:=eZ ([n0,n1,n2,n3,n4,n5,n6,n7].take 6) (fun m hm=>O jj m (List.mem_of_mem_take hm));have qY:(pay ([n0,n1,n2,n3,n4,n5,n6,n7].take 6)).length<=80:=yO uJ (by simp);generalize pay ([n0,n1,n2,n3,n4,n5,n6,n7].take 6)=L at xN uM qY;have oy:=U xN;have uC:=U xl;clear xN xl uJ ue;have bV:∀W:World,Sem.run Tryz.prog (Instr.index 156 (.agg #[H n0,H n1,H n2,H n3,H n4,H n5,H n6,H n7]) (H 6)) W = .ok (H n6) W:=fun W=>by kernel_rfl
    go_wp2_with fail;clear bV;refine(gH n6 wr um.1 um.2).mono ?_;rintro e w2 ⟨v2,rfl,ur,xy⟩;have vj:=zH _ (dy n6 um.1 um.2);obtain⟨g,cp,rfl,jn,vd⟩:=gj ur;have uk:=U vd;have vv:=U (zQ (O oy) xy);have jD:Hid (xh.heap.size<=w2.heap.size):=yO (O uC).size xy.size;have xz:=U (mf (O uC) xy);clear ur xy vd;generalize putU (zz n6)=P at uM vj uk |-;go_wp2_with (at_builtin;go_must (refine wpList_append_own _ rfl _ _ 22 rfl xh.heap.size 5 i0 _ 1 1 Tryz.underlying22 uo ub xX uh rfl (by decide) (u3) _ _ rfl (O vv) (Y g 0) _ cp ((P).map (Value.int .u8)) rfl (by simp) (O uk) (one_b _) (by unfold maxLen;omega) (by omega) (O jD) ?_);intro v3 w3 xu F _;have vD:=U xu;have vu:=U F;clear xu F)
    have HN:Hid (BRow w3 xh.heap.size v3 (pay ([n0,n1,n2,n3,n4,n5,n6,n7].take (6+1)))/\yp xh w3):=by
     rw[O uM];exact⟨eL (O vD),(O xz).grown (O vu) (O xz).size (fun q hq=>((O vv).lt q hq).1)⟩
    clear vD vu;go_wp2_with fail;go_roundw
    case rel=>exact⟨6+1,by omega,by go_num,O HN⟩
    case measure=>simp[intOf]
   ·have uM:Hid (pay ([n0,n1,n2,n3,n4,n5,n6,n7].take (7+1))=pay ([n0,n1,n2,n3,n4,n5,n6,n7].take 7)++putU (zz n7)):=gD [n0,n1,n2,n3,n4,n5,n6,n7] rfl;have um:=O jj n7 (by simp);obtain⟨xN,xl⟩:=O ue;have uJ:=eZ ([n0,n1,n2,n3,n4,n5,n6,n7].take 7) (fun m hm=>O jj m (List.mem_of_mem_take hm));have qY:(pay ([n0,n1,n2,n3,n4,n5,n6,n7].take 7)).length<=80:=yO uJ (by simp);generalize pay ([n0,n1,n2,n3,n4,n5,n6,n7].take 7)=L at xN uM qY;have oy:=U xN;have uC:=U xl;clear xN xl uJ ue;have bV:∀W:World,Sem.run Tryz.prog (Instr.index 156 (.agg #[H n0,H n1,H n2,H n3,H n4,H n5,H n6,H n7]) (H 7)) W = .ok (H n7) W:=fun W=>by kernel_rfl
    go_wp2_with fail;clear bV;refine(gH n7 wr um.1 um.2).mono ?_;rintro e w2 ⟨v2,rfl,ur,xy⟩;have vj:=zH _ (dy n7 um.1 um.2);obtain⟨g,cp,rfl,jn,vd⟩:=gj ur;have uk:=U vd;have vv:=U (zQ (O oy) xy);have jD:Hid (xh.heap.size<=w2.heap.size):=yO (O uC).size xy.size;have xz:=U (mf (O uC) xy);clear ur xy vd;generalize putU (zz n7)=P at uM vj uk |-;go_wp2_with (at_builtin;go_must (refine wpList_append_own _ rfl _ _ 22 rfl xh.heap.size 5 i0 _ 1 1 Tryz.underlying22 uo ub xX uh rfl (by decide) (u3) _ _ rfl (O vv) (Y g 0) _ cp ((P).map (Value.int .u8)) rfl (by simp) (O uk) (one_b _) (by unfold maxLen;omega) (by omega) (O jD) ?_);intro v3 w3 xu F _;have vD:=U xu;have vu:=U F;clear xu F)
    have HN:Hid (BRow w3 xh.heap.size v3 (pay ([n0,n1,n2,n3,n4,n5,n6,n7].take (7+1)))/\yp xh w3):=by
     rw[O uM];exact⟨eL (O vD),(O xz).grown (O vu) (O xz).size (fun q hq=>((O vv).lt q hq).1)⟩
    clear vD vu;go_wp2_with fail;go_roundw
    case rel=>exact⟨7+1,by omega,by go_num,O HN⟩
    case measure=>simp[intOf]
  ·obtain rfl:k=8:=by omega
   have br:Hid (BRow wr xh.heap.size u3 (pay [n0,n1,n2,n3,n4,n5,n6,n7])/\yp xh wr):=O ue;clear ue;go_wp2_with fail;refine O xw _ _ ?_;clear xw;go_wp2_with fail;go_ret;exact⟨_,rfl,bRow_base (O br).1 (O ui).size,(O ui).trans ((O br).2.mono (O ui).size)⟩
end Go.Proofs.YtkofhemdefffpaaGreatDoor
