/-.-/
import Derived.Test.YtkofhemdefffpaaGreatDoorPq26
set_option linter.unusedVariables false
set_option maxHeartbeats 6400000
set_option maxRecDepth 100000
namespace Go.Proofs.YtkofhemdefffpaaGreatDoor
open Go.RowKit
theorem rdEs_le {l:List Int}:∀ {os:List Nat} {e x:Ev} {k n:Nat},rdEs os e l k=some (x,n)->k<=n/\(k<=l.length->n<=l.length)
 | [],e,x,k,n,h=>by simp only[rdEs,Option.some.injEq,Prod.mk.injEq] at h;omega
 | o::os,e,x,k,n,h=>by
  cases hf:rdF o l k with
  | none=>rw[gY hf] at h;cases h
  | some y =>
   obtain⟨u,m⟩:=y;rw[gO hf] at h;have Z:=rdF_le hf;have Q:=rdEs_le h;exact⟨by omega,fun _=>Q.2 Z.1⟩
theorem evA_le {l:List Int}{k n:Nat}{e:Ev}(h:evA l k=some (e,n)):k<n/\n<=l.length:=by
 unfold evA at h;split at h
 ·cases h
 split at h
 ·cases h
 have:=rdEs_le h;omega
theorem eo {l:List Int}{o k n:Nat}{os:List Nat}{e x:Ev}(h:rdEs (o::os) e l k=some (x,n))(h7:o≠7)(h8:o≠8):∃z m,rdEs os (e.put o (H z)) l m=some (x,n):=by
 cases hf:rdF o l k with
 | none=>rw[gY hf] at h;cases h
 | some y =>
  obtain⟨u,m⟩:=y;rw[gO hf] at h;have ht:=rdF_ty hf;unfold TyO at ht;rw[if_neg h7,if_neg h8] at ht;obtain⟨z,rfl⟩:=ht;exact⟨z,m,h⟩
theorem rdEs_flt {l:List Int}{k n:Nat}{os:List Nat}{e x:Ev}(h:rdEs (7::os) e l k=some (x,n)):∃p m,rdEs os (e.put 7 (yk p)) l m=some (x,n):=by
 cases hf:rdF 7 l k with
 | none=>rw[gY hf] at h;cases h
 | some y =>
  obtain⟨u,m⟩:=y;rw[gO hf] at h;have ht:=rdF_ty hf;unfold TyO at ht;rw[if_pos rfl] at ht;obtain⟨z,rfl⟩:=ht;exact⟨z,m,h⟩
theorem strB_size:∀(ns:List Int) (r:ByteArray),(ns.foldl (fun r n=>r.push (UInt8.ofNat n.toNat)) r).size=r.size+ns.length
 | [],r=>by simp
 | a::ns,r=>by
  rw[List.foldl_cons,strB_size ns,ByteArray.size_push,List.length_cons];omega
theorem textA_size {l:List Int}{k n:Nat}{s:ByteArray}(h:eg l k=some (s,n)):s.size<=13:=by
 unfold eg at h;cases F:getU l k with
 | none=>rw[F] at h;cases h
 | some x =>
  obtain⟨u,m⟩:=x;rw[F] at h;simp only at h;split at h
  ·cases h
  simp only[Option.some.injEq,Prod.mk.injEq] at h;obtain⟨rfl,-⟩:=h;rw[strB,strB_size,List.length_take];show 0 + _ <= 13;omega
theorem rdEs_txt {l:List Int}{k n:Nat}{os:List Nat}{e x:Ev}(h:rdEs (8::os) e l k=some (x,n)):∃s m,s.size<=13/\rdEs os (e.put 8 (yl s)) l m=some (x,n):=by
 cases hf:rdF 8 l k with
 | none=>rw[gY hf] at h;cases h
 | some y =>
  obtain⟨u,m⟩:=y;rw[gO hf] at h;unfold rdF at hf;rw[if_neg (by decide),if_pos rfl] at hf;cases ht:eg l k with
  | none=>rw[ht] at hf;cases hf
  | some y =>
   obtain⟨s,p⟩:=y;rw[ht] at hf;simp only[Option.map_some,Option.some.injEq,Prod.mk.injEq] at hf;obtain⟨rfl,rfl⟩:=hf;exact⟨s,p,textA_size ht,h⟩
theorem rdEs_end {l:List Int}{k n:Nat}{e x:Ev}(h:rdEs [] e l k=some (x,n)):x=e:=by
 simp only[rdEs,Option.some.injEq,Prod.mk.injEq] at h;exact h.1.symm
theorem evA_ok {l:List Int}{k n:Nat}{e:Ev}(h:evA l k=some (e,n)):okE e=true/\e.cmd.g.size<=13:=by
 unfold evA at h;split at h
 ·cases h
 split at h
 ·cases h
 rename_i Z Q;have E:=(shF_ne (l.getD k 0)).1 Q;generalize l.getD k 0=c at h Q E;rcases(show c=1\/c=2\/c=3\/c=4\/c=5\/c=6\/c=7\/c=8\/c=9 by omega) with rfl|rfl|rfl|rfl|rfl|rfl|rfl|rfl|rfl
 ·obtain⟨a1,_,h⟩:=eo h (by decide) (by decide);obtain⟨a2,_,h⟩:=eo h (by decide) (by decide);obtain⟨a3,_,h⟩:=eo h (by decide) (by decide);obtain⟨a4,_,h⟩:=eo h (by decide) (by decide);obtain⟨a5,_,h⟩:=rdEs_flt h;obtain⟨a6,_,hs,h⟩:=rdEs_txt h;obtain⟨a7,_,h⟩:=eo h (by decide) (by decide);rw[rdEs_end h];refine⟨?_,hs⟩;simp[okE,Ev.put,ev0,shC,fldK,eE,dw,List.range,List.range.loop,hs]
 ·obtain⟨a1,_,h⟩:=eo h (by decide) (by decide);obtain⟨a2,_,h⟩:=eo h (by decide) (by decide);obtain⟨a3,_,h⟩:=eo h (by decide) (by decide);obtain⟨a4,_,h⟩:=eo h (by decide) (by decide);obtain⟨b1,_,h⟩:=eo h (by decide) (by decide);obtain⟨b2,_,h⟩:=eo h (by decide) (by decide);obtain⟨a5,_,h⟩:=rdEs_flt h;obtain⟨a6,_,hs,h⟩:=rdEs_txt h;obtain⟨a7,_,h⟩:=eo h (by decide) (by decide);rw[rdEs_end h];refine⟨?_,hs⟩;simp[okE,Ev.put,ev0,shC,fldK,eE,dw,List.range,List.range.loop,hs]
 ·obtain⟨a1,_,h⟩:=eo h (by decide) (by decide);obtain⟨a2,_,h⟩:=eo h (by decide) (by decide);obtain⟨a3,_,h⟩:=eo h (by decide) (by decide);obtain⟨a4,_,h⟩:=eo h (by decide) (by decide);rw[rdEs_end h];exact⟨by simp[okE,fT,Ev.put,ev0,shC,fldK,eE,dw,List.range,List.range.loop,gz],Nat.zero_le 13⟩
 rotate_left 4
 ·obtain⟨a1,_,h⟩:=eo h (by decide) (by decide);rw[rdEs_end h];exact⟨by simp[okE,fT,Ev.put,ev0,shC,fldK,eE,dw,List.range,List.range.loop,gz],Nat.zero_le 13⟩
 all_goals
  obtain⟨a1,_,h⟩:=eo h (by decide) (by decide);obtain⟨a2,_,h⟩:=eo h (by decide) (by decide);rw[rdEs_end h];exact⟨by simp[okE,fT,Ev.put,ev0,shC,fldK,eE,dw,List.range,List.range.loop,gz],Nat.zero_le 13⟩
theorem getD_app (a p:List Int)(i:Nat):(a++p).getD (a.length+i) 0=p.getD i 0:=by
 simp[List.getElem?_append_right]
theorem drop_app (a p:List Int)(i:Nat):(a++p).drop (a.length+i)=p.drop i:=by
 rw[List.drop_append,xb (by omega)];simp
theorem scan_app (a p:List Int)(k:Nat):∀(f i u:Nat),scan (a++p) (a.length+k) f i u=(scan p k f i u).map fun x=>(x.1,a.length+x.2)
 | 0,_,_=>rfl
 | f+1,i,u=>by
  rw[scan,scan,Nat.add_assoc,getD_app,yQ,scan_app a p k f (i+1)]
  by_cases h:p.length<=k+i
  ·rw[if_pos (by omega),if_pos h];rfl
  ·rw[if_neg (by omega),if_neg h];split
   ·rfl
   ·split
    ·simp only[Option.map_some,Option.some.injEq,Prod.mk.injEq,true_and];omega
    ·rfl
theorem getU_app (a p:List Int)(k:Nat):getU (a++p) (a.length+k)=(getU p k).map fun x=>(x.1,a.length+x.2):=scan_app a p k 10 0 0
theorem bits_app (a p:List Int)(k i:Nat):dR (a++p) (a.length+k) i=dR p k i:=by unfold dR;rw[drop_app]
theorem floatA_app (a p:List Int)(k:Nat):eD (a++p) (a.length+k)=(eD p k).map fun x=>(x.1,a.length+x.2):=by
 unfold eD;rw[bits_app,yQ]
 by_cases h:p.length<k+8
 ·rw[if_pos (by omega),if_pos h];rfl
 ·rw[if_neg (by omega),if_neg h];split
  ·rfl
  ·simp only[Option.map_some,Option.some.injEq,Prod.mk.injEq,true_and];omega
theorem textA_app (a p:List Int)(k:Nat):eg (a++p) (a.length+k)=(eg p k).map fun x=>(x.1,a.length+x.2):=by
 unfold eg;rw[getU_app];cases getU p k with
 | none=>rfl
 | some x =>
  obtain⟨u,n⟩:=x;simp only[Option.map_some];rw[drop_app,yQ]
  by_cases h:unz u<0\/13<unz u\/(p.length:Int)-n<unz u
  ·rw[if_pos (by omega),if_pos h];rfl
  ·rw[if_neg (by omega),if_neg h];simp only[Option.map_some,Option.some.injEq,Prod.mk.injEq,true_and];omega
theorem rdF_app (a p:List Int)(o k:Nat):rdF o (a++p) (a.length+k)=(rdF o p k).map fun x=>(x.1,a.length+x.2):=by
 unfold rdF;rw[floatA_app,textA_app,getU_app]
 repeat' split
 all_goals simp only[Option.map_map];rfl
theorem rdEs_app (a p:List Int):∀(os:List Nat) (e:Ev) (k:Nat),rdEs os e (a++p) (a.length+k)=(rdEs os e p k).map fun x=>(x.1,a.length+x.2)
 | [],e,k=>rfl
 | o::os,e,k=>by
  have h:=rdF_app a p o k;cases hf:rdF o p k with
  | none=>rw[hf] at h;rw[gY hf,gY h];rfl
  | some x=>rw[hf] at h;rw[gO hf,gO h,rdEs_app a p os]
theorem evA_app (a p:List Int)(k:Nat):evA (a++p) (a.length+k)=(evA p k).map fun x=>(x.1,a.length+x.2):=by
 unfold evA;rw[getD_app,yQ,Nat.add_assoc,rdEs_app]
 by_cases h:p.length<=k
 ·rw[if_pos (by omega),if_pos h];rfl
 ·rw[if_neg (by omega),if_neg h];split <;> rfl
theorem rd_piece {w:World}{v:Value}{l:List Int}(h:Rd w v l)(hl:l.length<=65536){b off cap n c:Nat}(hv:v = .slice (some (Y b off)) l.length cap)(hn:n+c<=l.length)(cp:Nat)(h0:0<c) :
  Rd w (.slice (some (Y b (off+n))) c cp) ((l.drop n).take c):=by
 obtain⟨a,jd,e,_,hc⟩:=h;obtain⟨b',qw,e2,hc⟩:=hc (by intro h;subst h;simp at hn;omega);rw[hv] at e;simp only[Value.slice.injEq,true_and] at e;obtain⟨e1,-⟩:=e;rw[e2] at e1;simp only[Option.some.injEq,Addr.mk.injEq,and_true] at e1;obtain⟨rfl,rfl⟩:=e1;exact piece_rd hc hn hl
theorem rd_none (w:World)(a:Option Addr)(cp:Nat):Rd w (.slice a 0 cp) []:=⟨a,cp,rfl,by simp,fun h=>absurd rfl h⟩
theorem take_nil0 (l:List Int)(n:Nat):(l.drop n).take 0 = []:=by simp
theorem take_rs {wb W:World}{R:Nat}{v:Value}{l:List Int}{k:Nat}(h:RSr wb R v l k W)(c:Nat)(hc:k+c<=l.length) :
  Calls Tryz.prog 71 #[h3 R 0,H c] W fun e w'=>∃a cp,e=yn (.slice a c cp)/\Rd wb (.slice a c cp) ((l.drop k).take c)/\RSr wb R v l (k+c) w'/\W.grownBy w' (some R):=by
 have jf:=h.ll;have F:∀(m:Nat) (q:Nat),W.grownBy ((W.setCell (Y R 1) (H m)).drewN q) (some R):=fun m q=>zr (fI W (Y R 1) _) (ef _ q _);obtain⟨a,cap,hv⟩:=fi h.rd;have xW:=h.cap _ _ _ hv;have hr:=h.r
 by_cases h0:c=0
 ·subst h0;rw[hv] at hr;refine(take_zero R k a l.length cap W hr (by omega) (by omega) xW).mono ?_;rintro e w' ⟨⟨a',c',rfl⟩,q,rfl⟩;exact⟨a',c',rfl,by rw[take_nil0];exact rd_none _ _ _,h.go (F k q) ((h.r.step _).drewN q) (by omega),F k q⟩
 ·obtain⟨b,off,rfl⟩:∃b off,a=some (Y b off):=by
   obtain⟨a',jd,e,_,hx⟩:=h.rd;obtain⟨b,off,e2,_⟩:=hx (by intro e;rw[e] at hc;simp at hc;omega);rw[hv] at e;simp only[Value.slice.injEq,true_and] at e;exact⟨b,off,e.1.trans e2⟩
  rw[hv] at hr;refine(take_ok R c k b off l.length cap W hr hc (by omega) xW (by omega)).mono ?_;rintro e w' ⟨rfl,q,rfl⟩;exact⟨_,_,rfl,rd_piece h.rd jf hv hc _ (by omega),h.go (F _ q) ((h.r.step _).drewN q) (by omega),F _ q⟩
theorem take_rse {wb W:World}{R:Nat}{v:Value}{l:List Int}{k:Nat}(h:RSr wb R v l k W)(c:Nat)(hc:l.length<k+c)(Z:c<=1073741824) :
  Calls Tryz.prog 71 #[h3 R 0,H c] W fun e w'=>(∃p,e = .panicked (ey 3 p))/\W.grownBy w' (some R):=by
 have jf:=h.ll;have hkk:=h.kk;obtain⟨a,cap,hv⟩:=fi h.rd;have hr:=h.r;rw[hv] at hr;refine(iO R c k a l.length cap W hr (by omega) (by omega) (by omega) (by omega) (by omega)).mono ?_;rintro e w' ⟨rfl,q,rfl⟩;exact⟨⟨_,rfl⟩,ef _ q _⟩
def FrEnd (wb:World)(R:Nat)(v:Value)(l:List Int)(W:World)(r:Option (Int × Nat × Nat × Int))(e:Ending)(w':World):Prop:=
 W.grownBy w' (some R)/\(∀m n t s,r=some (m,n,t,s)->∃pv,e=yn (.agg #[.int .u8 m,pv,H n,H s])/\Rd wb pv ((l.drop n).take (t-n))/\eJ pv/\Rdr R w' v ((t+2:Nat):Int))/\(r=none->∃p,e = .panicked (ey 3 p))
theorem gJ {wb:World}{R:Nat}{v:Value}{l:List Int}{W w':World}{r:Option (Int × Nat × Nat × Int)}(F:W.grownBy w' (some R))(hr:r=none)(p:Int):FrEnd wb R v l W r (.panicked (ey 3 p)) w':=
 ⟨F,(fun _ _ _ _ h=>by rw[hr] at h;cases h),fun _=>⟨p,rfl⟩⟩
theorem frEnd_done {wb:World}{R:Nat}{v:Value}{l:List Int}{W w':World}{r:Option (Int × Nat × Nat × Int)}{m:Int}{n t:Nat}{s:Int}{pv:Value}(F:W.grownBy w' (some R))(hr:r=some (m,n,t,s))(hp:Rd wb pv ((l.drop n).take (t-n)))(hc:eJ pv)(h:Rdr R w' v ((t+2:Nat):Int)):FrEnd wb R v l W r (yn (.agg #[.int .u8 m,pv,H n,H s])) w':=
 ⟨F,(fun _ _ _ _ h'=>by rw[hr] at h';cases h';exact⟨pv,rfl,hp,hc,h⟩),(fun h'=>by rw[hr] at h';cases h')⟩
theorem or_two (a b:Int)(ha:0<=a/\a<=255)(K:0<=b/\b<=255):bits .or .i64 (a*256) b=a*256+b:=by
 obtain⟨x,rfl⟩:=Int.eq_ofNat_of_zero_le ha.1;obtain⟨y,rfl⟩:=Int.eq_ofNat_of_zero_le K.1;have e2:(x:Int)*256=((x*256:Nat):Int):=by omega
 have h:=nat_join 8 (x*256) y (by omega) (by omega);rw[e2];show IntKind.i64.wrap ((BitVec.ofInt 64 ((x*256:Nat):Int) ||| BitVec.ofInt 64 (y:Int)).toNat:Int) = _;rw[BitVec.toNat_or,ofInt_u64 _ (by omega),ofInt_u64 _ (by omega),h,IntKind.wrap_i64];omega
theorem rd_first {w:World}{a:Option Addr}{cp c:Nat}{l:List Int}{k:Nat}(h:Rd w (.slice a c cp) ((l.drop k).take c))(hc:k+c<=l.length)(h0:0<c):∃b off,a=some (Y b off)/\∀i,i<c->w.cell? (Y b (off+i))=some (.int .u8 (l.getD (k+i) 0)):=by
 obtain⟨a',jd,e,_,hx⟩:=h;have xC:((l.drop k).take c).length=c:=by rw[List.length_take,List.length_drop];omega
 obtain⟨b,off,e2,hx⟩:=hx (by intro e;rw[e] at xC;simp at xC;omega);simp only[Value.slice.injEq] at e;refine⟨b,off,e.1.trans e2,fun i hi=>?_⟩;rw[hx i (by omega)];have:((l.drop k).take c).getD i 0=l.getD (k+i) 0:=by simp[hi,List.getElem?_drop]
 rw[this]
theorem set4 (W:World)(b:Nat)(v0 v1 v2 v3:Value):(((W.setCell (Y b 0) v0).setCell (Y b 1) v1).setCell (Y b 2) v2).setCell (Y b 3) v3=W.setCells b 0 [v0,v1,v2,v3]:=by
 simp[World.setCells]
theorem frame_rs {wb W:World}{R:Nat}{v:Value}{l:List Int}{k:Nat}(s:Int)(h:RSr wb R v l k W)(h0:0<=s)(Z:s<65521) :
  Calls Tryz.prog 47 #[h3 R 0,H s] W fun e w'=>FrEnd wb R v l W (frA l k s) e w':=by
 have hR:=h.lt;have jf:=h.ll;have hkk:=h.kk;have HBT:=U h.bb;obtain⟨xS,HX⟩:=mh W [.int .u8 0,.slice none 0 0,H 0,H 0] 95;have HS:=U (h.below xS hR);have HG:=U (gp xS R);have HZ:Hid (W.heap.size<(W.alloc (me #[.int .u8 0,.slice none 0 0,H 0,H 0] 95)).heap.size):=by show _ < _;simp
 clear h xS;have HE:=U (fun h=>frA_end (l:=l) (k:=k) (s:=s) h);have HM:=U (fun h=>frA_mark (l:=l) (k:=k) (s:=s) h);have HN:=U (fun h=>frA_num (l:=l) (k:=k) (s:=s) h);have HB:=U (fun u n h K=>frA_bad (l:=l) (k:=k) (s:=s) (u:=u) (n:=n) h K);have HU:=U (fun u n c h hu K=>frA_sum (l:=l) (k:=k) (s:=s) (u:=u) (n:=n) (c:=c) h hu K);have HY:=U (fun u n c E Z h hu hc hl K=>frA_yes (l:=l) (k:=k) (s:=s) (u:=u) (n:=n) (c:=c) E Z h hu hc hl K);generalize frA l k s=FR at HE HM HN HB HU HY |-;go_enter Tryz.func47,Tryz.ntmps47;have r1:=(O HS).r.2;go_wp2_with fail;generalize W.alloc (me #[.int .u8 0,.slice none 0 0,H 0,H 0] 95)=W0 at HS HX HG HZ r1 |-
 by_cases E:l.length<=k
 ·have HF:=U (O HE E);refine(take_rse (O HS) 1 (by omega) (by omega)).mono ?_;rintro e w1 ⟨⟨p,rfl⟩,F⟩;go_wp2_with fail;exact⟨rfl,gJ (zr (O HG) F) (O HF) _⟩
 refine(take_rs (O HS) 1 (by omega)).mono ?_;rintro e w1 ⟨a1,cp1,rfl,hrd1,xG,oh⟩;obtain⟨b1,o1,rfl,jX⟩:=rd_first (fx hrd1 xG.bel yb) (by omega) (by omega);have x0:=jX 0 (by omega);simp only[Nat.add_zero] at x0;have hm:=gk (O HBT) k;generalize l.getD k 0=m at x0 hm HM HY;have oT:=U xG;have kQ:=U (zr (O HG) oh);have uI:=U (dm (O HX) (oh.block W.heap.size (O HZ) (by simp;omega)));have aS:Hid (W.heap.size<w1.heap.size):=yK (O HZ) oh.size;clear hrd1 xG oh jX HS HX HG HZ r1
 by_cases hmk:m≠71/\m≠69
 ·have HF:=U (O HM hmk);have e1:(m != 71)=true:=by simpa using hmk.1
  have e2:(m != 69)=true:=by simpa using hmk.2
  clear hmk;go_wp2_with fail;refine(fu R 3 _ _ _ (O oT).r).mono ?_;rintro e w2 ⟨rfl,rfl⟩;go_wp2_with fail;exact⟨rfl,gJ (O kQ) (O HF) _⟩
 have HMK:Hid (m=71\/m=69):=by show _ \/ _;omega
 clear hmk HM;have pV:=U (number_rs (O oT));rcases O HMK with rfl|rfl
 all_goals
  go_wp2_with fail;refine(O pV).mono ?_;intro e w2 hN;cases F:getU l (k+1) with
  | none =>
   obtain⟨p,rfl⟩:=hN.2.2 F;have cG:=U (zr (O kQ) hN.1);have HF:=U (O HN F);clear hN F;go_wp2_with fail;exact⟨rfl,gJ (O cG) (O HF) _⟩
  | some x =>
   obtain⟨u,n⟩:=x;obtain⟨rfl,cW⟩:=hN.2.1 u n F;have uJ:=io 10 0 0 l (k+1) u n F;have vn:=hN.1;have uf:=U (zr (O kQ) vn);have xZ:=U ((O oT).go vn cW uJ.1);have xR:=U (dm (O uI) (vn.block W.heap.size (O aS) (by simp;omega)));have bK:Hid (W.heap.size<w2.heap.size):=yK (O aS) vn.size;have kJ:=U (fun K=>O HB u n F K);have HUD:=U (fun c hu K=>O HU u n c F hu K);have HYD:=U (fun c hu hc hl K=>O HY u n c (by omega) (O HMK) F hu hc hl K);clear hN cW F vn HB HU HY HN pV oT kQ uI aS HMK x0;generalize unz u=z at kJ HUD HYD |-;obtain⟨hn1,hn2⟩:=uJ;have HIB:=U (iQ z 0 8192);go_wp2_with fail;refine(O HIB _).mono ?_;rintro e w3 ⟨rfl,rfl⟩
   by_cases hz:betB z 0 8192=true
   ·have hz':0<=z/\z<=8192:=by simpa[betB] using hz
    obtain⟨c,rfl⟩:=Int.eq_ofNat_of_zero_le hz'.1;have hc:c<=8192:=by omega
    have r2:=(O xZ).r.2;rw[hz];clear hz hz' HIB;go_wp2_with fail
    by_cases xo:l.length<n+c
    ·have HF:=U (O kJ (by omega));refine(take_rse (O xZ) c xo (by omega)).mono ?_;rintro e w3 ⟨⟨p,rfl⟩,F⟩;go_wp2_with fail;exact⟨rfl,gJ (zr (O uf) F) (O HF) _⟩
    refine(take_rs (O xZ) c (by omega)).mono ?_;rintro e w3 ⟨a3,c3,rfl,-,qv,ua⟩;have uL:=U (zr (O uf) ua);have vz:=U (dm (O xR) (ua.block W.heap.size (O bK) (by simp;omega)));have HZ3:Hid (W.heap.size<w3.heap.size):=yK (O bK) ua.size;have jz:=U qv;have r3:=qv.r.2;have r4:=qv.r.1;obtain⟨a,cap,hv⟩:=fi qv.rd;have xW:=qv.cap _ _ _ hv
    obtain⟨b,off,rfl⟩:∃b off,a=some (Y b off):=by
     obtain⟨a',jd,e,_,hx⟩:=qv.rd;obtain⟨b,off,e2,_⟩:=hx (by intro e;rw[e] at E;simp at E);rw[hv] at e;simp only[Value.slice.injEq,true_and] at e;exact⟨b,off,e.1.trans e2⟩
    have HP:=U (rd_piece (n:=k) (c:=n+c-k) qv.rd jf hv (by omega) (cap-k) (by omega));have HQ:Hid (0<c->Rd wb (.slice (some (Y b (off+n))) c c) ((l.drop n).take c)):=fun h0=>rd_piece qv.rd jf hv (by omega) c h0;have HRB:=U (fx (O HP) qv.bel yb);have HPB:Hid (Bts ((l.drop k).take (n+c-k))):=fun x hx=>O HBT x (List.mem_of_mem_drop (List.mem_of_mem_take hx));have HSM:=U (implSum_any _ _ s w3 (O HRB) (O HPB));rw[hv] at r4;have q1:(k:Int)<=n+c:=by omega
    have q2:((n:Int)+c)<=cap:=by omega
    have q3:¬ (cap=k):=by omega
    have q4:((n+c-k:Nat):Int)=n+c-k:=by omega
    have q5:(0:Int)<=n:=by omega
    clear qv ua r2 uf xR bK xZ;go_wp2_with fail;refine(O HSM).mono ?_;rintro e w4 ⟨rfl,rfl⟩
    have qJ:Hid (sumOf ((l.drop k).take (n+c-k)) s=sumL ((l.drop k).take (n+c-k)) s):=by
     show _ = _;unfold sumOf;rw[if_neg];rw[List.length_take];omega
    rw[O qJ];have HUE:=U (fun K=>O HUD c rfl K);have HYE:=U (fun hl K=>O HYD c rfl hc hl K);have HSB:=U (gF ((l.drop k).take (n+c-k)) s h0 Z);generalize sumL ((l.drop k).take (n+c-k)) s=s2 at HUE HYE HSB |-;clear HSM qJ HUD HYD q3 q4;go_wp2_with fail
    by_cases hcl2:l.length<n+c+2
    ·have HF:=U (O kJ (by omega));refine(take_rse (O jz) 2 hcl2 (by omega)).mono ?_;rintro e w5 ⟨⟨p,rfl⟩,F⟩;go_wp2_with fail;exact⟨rfl,gJ (zr (O uL) F) (O HF) _⟩
    refine(take_rs (O jz) 2 (by omega)).mono ?_;rintro e w5 ⟨a5,c5,rfl,hrd5,hs5,vR⟩;obtain⟨b5,o5,rfl,hc5⟩:=rd_first (fx hrd5 hs5.bel yb) (by omega) (by omega);have y0:=hc5 0 (by omega);have y1:=hc5 1 (by omega);simp only[Nat.add_zero] at y0;have xS:=gk (O HBT) (n+c);have ud:=gk (O HBT) (n+c+1);have oX:=U (O HYE (by omega));generalize l.getD (n+c) 0=m0 at y0 xS HUE oX;generalize l.getD (n+c+1) 0=m1 at y1 ud HUE oX;have uE:=U (zr (O uL) vR);have qz:=U (dm (O vz) (vR.block W.heap.size (O HZ3) (by simp;omega)));have bE:=U hs5;have r5:=hs5.r.1;rw[hv] at r5;have D:=or_two m0 m1 xS ud;have hw0:IntKind.i64.wrap (m0*256)=m0*256:=by rw[IntKind.wrap_i64];omega
    have pH:IntKind.i64.wrap m0=m0:=by rw[IntKind.wrap_i64];omega
    have cx:IntKind.i64.wrap m1=m1:=by rw[IntKind.wrap_i64];omega
    clear hrd5 hs5 vR hc5 jz uL vz HYE HRB r3 r4;go_wp2_with fail;go_quiet (fail);have qD:=U (zr (O uE) (ef w5 nq _));have qb:=U (fN (O qz) nq);have HS6:Hid (RSr wb R v l (n+c+2) (w5.drewN nq)):=(O bE).go (ef w5 nq _) ((O bE).r.drewN nq) (by omega);have r6:=(O HS6).r.1;rw[hv] at r6;generalize w5.drewN nq=w6 at qD qb HS6 r6 |-;clear uE qz bE r5 y0 y1 hw0 pH cx
    by_cases hq:m0*256+m1=s2
    ·have HF:=U (O oX hq);have e1:(m0*256+m1 != s2)=false:=by simpa using hq
     clear hq HUE oX;have z0:=J (O qb) 0 rfl;have z1:=J (O qb) 1 rfl;have z2:=J (O qb) 2 rfl;have z3:=J (O qb) 3 rfl;have f0:=zg (O qb) 0 (by decide);have f1:=zg (O qb) 1 (by decide);have f2:=zg (O qb) 2 (by decide);have f3:=zg (O qb) 3 (by decide);have q6:(n:Int)<=n+c:=by omega
     have q7:((n:Int)+c-n)=c:=by omega
     have HPV:Hid (∃pv,(c=0->pv = .slice (some (Y b off)) 0 0)/\(¬ c=0->pv = .slice (some (Y b (off+n))) c c)/\Rd wb pv ((l.drop n).take (n+c-n))/\eJ pv):=by
      rw[show n+c-n=c by omega]
      by_cases jT:c=0
      ·subst jT;exact⟨_,fun _=>rfl,fun h=>absurd rfl h,by rw[take_nil0];exact rd_none _ _ _,fun a n c e=>by cases e;exact Nat.le_refl _⟩
      ·exact⟨_,fun h=>absurd h jT,fun _=>rfl,O HQ (by omega),fun a n c e=>by cases e;exact Nat.le_refl _⟩
     obtain⟨pv,hp0,hp1,hp2,hp3⟩:=O HPV;have HP2:=U hp2;have HP3:=U hp3;have xP:=U (fun m=>zy (us:=[.int .u8 m,pv,H n,H s2]) (O qb) rfl);have jC:=U (fun m=>iV [.int .u8 m,pv,H n,H s2] (O qD) yb);have pw:=U (fun m=>iT [.int .u8 m,pv,H n,H s2] (O HS6).r (show R≠W.heap.size by omega));clear HPV qb qD HS6 hp2 hp3
     by_cases jT:c=0
     ·obtain rfl:=hp0 jT;subst jT;clear hp0 hp1;go_wp2_with fail;rw[set4];have d:=O xP;refine bodyPost_ret (by simp[results,Tryz.results47,go_sem,J (d _) 0 rfl,J (d _) 1 rfl,J (d _) 2 rfl,J (d _) 3 rfl];try rfl) rfl (frEnd_done (O jC _) (O HF) (O HP2) (O HP3) (O pw _))
     ·obtain rfl:=hp1 jT;clear hp0 hp1;go_wp2_with fail;rw[set4];have d:=O xP;refine bodyPost_ret (by simp[results,Tryz.results47,go_sem,J (d _) 0 rfl,J (d _) 1 rfl,J (d _) 2 rfl,J (d _) 3 rfl];try rfl) rfl (frEnd_done (O jC _) (O HF) (O HP2) (O HP3) (O pw _))
    ·have HF:=U (O HUE hq);have e1:(m0*256+m1 != s2)=true:=by simpa using hq
     clear hq HUE oX;go_wp2_with fail;refine(fu R 3 _ _ _ (O HS6).r).mono ?_;rintro e w7 ⟨rfl,rfl⟩;go_wp2_with fail;exact⟨rfl,gJ (O qD) (O HF) _⟩
   ·have hz':z<0\/8192<z:=by
     by_cases h:z<0
     ·exact Or.inl h
     ·refine Or.inr ?_
      by_cases Q:8192<z
      ·exact Q
      ·exact absurd (by simp[betB];omega) hz
    have HF:=U (O kJ (by omega));rw[show betB z 0 8192=false by simpa using hz];clear hz hz' HIB;go_wp2_with fail;refine(fu R 3 _ _ _ (O xZ).r).mono ?_;rintro e w4 ⟨rfl,rfl⟩;go_wp2_with fail;exact⟨rfl,gJ (O uf) (O HF) _⟩
end Go.Proofs.YtkofhemdefffpaaGreatDoor
