/-.-/
import Derived.Test.YtbghmldggahjiaaGreatDoorUj06
import GoSem.Core.Float
set_option linter.unusedVariables false
set_option maxHeartbeats 6400000
set_option maxRecDepth 100000
namespace Go.Proofs.YtbghmldggahjiaaGreatDoor
open Go.RowKit
theorem rdEs_le {l:List Int}:∀ {os:List Nat} {e x:Ev} {k n:Nat},rdEs os e l k=some (x,n)->k<=n/\(k<=l.length->n<=l.length)
 | [],e,x,k,n,h=>by simp only[rdEs,Option.some.injEq,Prod.mk.injEq] at h;omega
 | o::os,e,x,k,n,h=>by
  cases hf:rdF o l k with
  | none=>rw[gK hf] at h;cases h
  | some y =>
   obtain⟨u,m⟩:=y;rw[gw hf] at h;have D:=rdF_le hf;have E:=rdEs_le h;exact⟨by omega,fun _=>E.2 D.1⟩
theorem evA_le {l:List Int}{k n:Nat}{e:Ev}(h:evA l k=some (e,n)):k<n/\n<=l.length:=by
 unfold evA at h;split at h
 ·cases h
 split at h
 ·cases h
 have:=rdEs_le h;omega
theorem eB {l:List Int}{o k n:Nat}{os:List Nat}{e x:Ev}(h:rdEs (o::os) e l k=some (x,n))(h7:o≠7)(h8:o≠8):∃z m,rdEs os (e.put o (H z)) l m=some (x,n):=by
 cases hf:rdF o l k with
 | none=>rw[gK hf] at h;cases h
 | some y =>
  obtain⟨u,m⟩:=y;rw[gw hf] at h;have ht:=rdF_ty hf;unfold TyO at ht;rw[if_neg h7,if_neg h8] at ht;obtain⟨z,rfl⟩:=ht;exact⟨z,m,h⟩
theorem rdEs_flt {l:List Int}{k n:Nat}{os:List Nat}{e x:Ev}(h:rdEs (7::os) e l k=some (x,n)):∃p m,rdEs os (e.put 7 (yj p)) l m=some (x,n):=by
 cases hf:rdF 7 l k with
 | none=>rw[gK hf] at h;cases h
 | some y =>
  obtain⟨u,m⟩:=y;rw[gw hf] at h;have ht:=rdF_ty hf;unfold TyO at ht;rw[if_pos rfl] at ht;obtain⟨z,rfl⟩:=ht;exact⟨z,m,h⟩
theorem strB_size:∀(ns:List Int) (r:ByteArray),(ns.foldl (fun r n=>r.push (UInt8.ofNat n.toNat)) r).size=r.size+ns.length
 | [],r=>by simp
 | a::ns,r=>by
  rw[List.foldl_cons,strB_size ns,ByteArray.size_push,List.length_cons];omega
theorem textA_size {l:List Int}{k n:Nat}{s:ByteArray}(h:ed l k=some (s,n)):s.size<=13:=by
 unfold ed at h;cases M:getU l k with
 | none=>rw[M] at h;cases h
 | some x =>
  obtain⟨u,m⟩:=x;rw[M] at h;simp only at h;split at h
  ·cases h
  simp only[Option.some.injEq,Prod.mk.injEq] at h;obtain⟨rfl,-⟩:=h;rw[strB,strB_size,List.length_take];show 0 + _ <= 13;omega
theorem rdEs_txt {l:List Int}{k n:Nat}{os:List Nat}{e x:Ev}(h:rdEs (8::os) e l k=some (x,n)):∃s m,s.size<=13/\rdEs os (e.put 8 (yk s)) l m=some (x,n):=by
 cases hf:rdF 8 l k with
 | none=>rw[gK hf] at h;cases h
 | some y =>
  obtain⟨u,m⟩:=y;rw[gw hf] at h;unfold rdF at hf;rw[if_neg (by decide),if_pos rfl] at hf;cases ht:ed l k with
  | none=>rw[ht] at hf;cases hf
  | some y =>
   obtain⟨s,p⟩:=y;rw[ht] at hf;simp only[Option.map_some,Option.some.injEq,Prod.mk.injEq] at hf;obtain⟨rfl,rfl⟩:=hf;exact⟨s,p,textA_size ht,h⟩
theorem rdEs_end {l:List Int}{k n:Nat}{e x:Ev}(h:rdEs [] e l k=some (x,n)):x=e:=by
 simp only[rdEs,Option.some.injEq,Prod.mk.injEq] at h;exact h.1.symm
theorem evA_ok {l:List Int}{k n:Nat}{e:Ev}(h:evA l k=some (e,n)):okE e=true/\e.cmd.g.size<=13:=by
 unfold evA at h;split at h
 ·cases h
 split at h
 ·cases h
 rename_i D E;have X:=(shF_ne (l.getD k 0)).1 E;generalize l.getD k 0=c at h E X;rcases(show c=1\/c=2\/c=3\/c=4\/c=5\/c=6\/c=7\/c=8\/c=9 by omega) with rfl|rfl|rfl|rfl|rfl|rfl|rfl|rfl|rfl
 ·obtain⟨a1,_,h⟩:=eB h (by decide) (by decide);obtain⟨a2,_,h⟩:=eB h (by decide) (by decide);obtain⟨a3,_,h⟩:=eB h (by decide) (by decide);obtain⟨a4,_,h⟩:=eB h (by decide) (by decide);obtain⟨a5,_,h⟩:=rdEs_flt h;obtain⟨a6,_,hs,h⟩:=rdEs_txt h;obtain⟨a7,_,h⟩:=eB h (by decide) (by decide);rw[rdEs_end h];refine⟨?_,hs⟩;simp[okE,Ev.put,ev0,shC,fldK,eO,eM,List.range,List.range.loop,hs]
 ·obtain⟨a1,_,h⟩:=eB h (by decide) (by decide);obtain⟨a2,_,h⟩:=eB h (by decide) (by decide);obtain⟨a3,_,h⟩:=eB h (by decide) (by decide);obtain⟨a4,_,h⟩:=eB h (by decide) (by decide);obtain⟨b1,_,h⟩:=eB h (by decide) (by decide);obtain⟨b2,_,h⟩:=eB h (by decide) (by decide);obtain⟨a5,_,h⟩:=rdEs_flt h;obtain⟨a6,_,hs,h⟩:=rdEs_txt h;obtain⟨a7,_,h⟩:=eB h (by decide) (by decide);rw[rdEs_end h];refine⟨?_,hs⟩;simp[okE,Ev.put,ev0,shC,fldK,eO,eM,List.range,List.range.loop,hs]
 ·obtain⟨a1,_,h⟩:=eB h (by decide) (by decide);obtain⟨a2,_,h⟩:=eB h (by decide) (by decide);obtain⟨a3,_,h⟩:=eB h (by decide) (by decide);obtain⟨a4,_,h⟩:=eB h (by decide) (by decide);rw[rdEs_end h];exact⟨by simp[okE,plainC,Ev.put,ev0,shC,fldK,eO,eM,List.range,List.range.loop,iz],Nat.zero_le 13⟩
 rotate_left 4
 ·obtain⟨a1,_,h⟩:=eB h (by decide) (by decide);rw[rdEs_end h];exact⟨by simp[okE,plainC,Ev.put,ev0,shC,fldK,eO,eM,List.range,List.range.loop,iz],Nat.zero_le 13⟩
 all_goals
  obtain⟨a1,_,h⟩:=eB h (by decide) (by decide);obtain⟨a2,_,h⟩:=eB h (by decide) (by decide);rw[rdEs_end h];exact⟨by simp[okE,plainC,Ev.put,ev0,shC,fldK,eO,eM,List.range,List.range.loop,iz],Nat.zero_le 13⟩
theorem getD_app (a p:List Int)(i:Nat):(a++p).getD (a.length+i) 0=p.getD i 0:=by
 simp[List.getElem?_append_right]
theorem drop_app (a p:List Int)(i:Nat):(a++p).drop (a.length+i)=p.drop i:=by
 rw[List.drop_append,xa (by omega)];simp
theorem scan_app (a p:List Int)(k:Nat):∀(f i u:Nat),scan (a++p) (a.length+k) f i u=(scan p k f i u).map fun x=>(x.1,a.length+x.2)
 | 0,_,_=>rfl
 | f+1,i,u=>by
  rw[scan,scan,Nat.add_assoc,getD_app,yP,scan_app a p k f (i+1)]
  by_cases h:p.length<=k+i
  ·rw[if_pos (by omega),if_pos h];rfl
  ·rw[if_neg (by omega),if_neg h];split
   ·rfl
   ·split
    ·simp only[Option.map_some,Option.some.injEq,Prod.mk.injEq,true_and];omega
    ·rfl
theorem getU_app (a p:List Int)(k:Nat):getU (a++p) (a.length+k)=(getU p k).map fun x=>(x.1,a.length+x.2):=scan_app a p k 10 0 0
theorem bits_app (a p:List Int)(k i:Nat):dS (a++p) (a.length+k) i=dS p k i:=by unfold dS;rw[drop_app]
theorem floatA_app (a p:List Int)(k:Nat):ey (a++p) (a.length+k)=(ey p k).map fun x=>(x.1,a.length+x.2):=by
 unfold ey;rw[bits_app,yP]
 by_cases h:p.length<k+8
 ·rw[if_pos (by omega),if_pos h];rfl
 ·rw[if_neg (by omega),if_neg h];split
  ·rfl
  ·simp only[Option.map_some,Option.some.injEq,Prod.mk.injEq,true_and];omega
theorem textA_app (a p:List Int)(k:Nat):ed (a++p) (a.length+k)=(ed p k).map fun x=>(x.1,a.length+x.2):=by
 unfold ed;rw[getU_app];cases getU p k with
 | none=>rfl
 | some x =>
  obtain⟨u,n⟩:=x;simp only[Option.map_some];rw[drop_app,yP]
  by_cases h:unz u<0\/13<unz u\/(p.length:Int)-n<unz u
  ·rw[if_pos (by omega),if_pos h];rfl
  ·rw[if_neg (by omega),if_neg h];simp only[Option.map_some,Option.some.injEq,Prod.mk.injEq,true_and];omega
theorem rdF_app (a p:List Int)(o k:Nat):rdF o (a++p) (a.length+k)=(rdF o p k).map fun x=>(x.1,a.length+x.2):=by
 unfold rdF;rw[floatA_app,textA_app,getU_app]
 repeat' split
 all_goals simp only[Option.map_map];rfl
theorem rdEs_app (a p:List Int):∀(os:List Nat) (e:Ev) (k:Nat),rdEs os e (a++p) (a.length+k)=(rdEs os e p k).map fun x=>(x.1,a.length+x.2)
 | [],e,k=>rfl
 | o::os,e,k=>by
  have h:=rdF_app a p o k;cases hf:rdF o p k with
  | none=>rw[hf] at h;rw[gK hf,gK h];rfl
  | some x=>rw[hf] at h;rw[gw hf,gw h,rdEs_app a p os]
theorem evA_app (a p:List Int)(k:Nat):evA (a++p) (a.length+k)=(evA p k).map fun x=>(x.1,a.length+x.2):=by
 unfold evA;rw[getD_app,yP,Nat.add_assoc,rdEs_app]
 by_cases h:p.length<=k
 ·rw[if_pos (by omega),if_pos h];rfl
 ·rw[if_neg (by omega),if_neg h];split <;> rfl
end Go.Proofs.YtbghmldggahjiaaGreatDoor
namespace Go.Proofs.YtbghmldggahjiaaGreatDoor
open Go Ieee
theorem fb:double.fractionBits=52:=rfl
theorem lp:double.leastPlace = -1074:=by decide
theorem bin:double.binade=4503599627370496:=by decide
theorem inf:double.infRung=9218868437227405312:=by decide
theorem sw:double.signWeight=9223372036854775808:=by decide
theorem read_mag {x:Nat}{s:Bool}{m:Nat}{i:Int}(h:double.read x = .number s m i):m<9007199254740992:=by
 unfold Format.read at h;simp only[bin,inf,sw] at h;split at h
 ·simp only[Datum.number.injEq] at h;omega
 ·split at h
  ·simp only[Datum.number.injEq] at h;omega
  ·split at h <;> cases h
theorem read_zero:double.read 0 = .number false 0 (-1074):=by decide
theorem read_top:double.read 4687829947429945344 = .number false 8589934592000000 (-35):=by decide
theorem read_four:double.read 4616189618054758400 = .number false 4503599627370496 (-50):=by decide
theorem signed_neg (m a:Nat):signed true m a<=0:=by
 show -((m <<< a:Nat):Int)<=0;exact Int.neg_nonpos_of_nonneg (Int.natCast_nonneg _)
theorem above_zero {x:Nat}(h:double.order x 0=some .gt):double.read x = .infinity false \/ ∃m i,double.read x = .number false m i/\m≠0:=by
 unfold Format.order at h;rw[read_zero] at h;cases hx:double.read x with
 | nan s f=>rw[hx] at h;simp[Datum.order] at h
 | infinity s=>cases s with
  | false=>exact .inl rfl
  | true=>rw[hx] at h;simp[Datum.order] at h
 | number s m i =>
  rw[hx] at h;simp only[Datum.order,Option.some.injEq] at h;have hz:∀b,signed false 0 b=0:=fun b=>by simp[signed]
  rw[hz] at h;have hgt:=Std.compare_eq_gt.1 h;cases s with
  | false =>
   refine .inr ⟨m,i,rfl,fun e=>?_⟩;subst e;rw[hz] at hgt;exact absurd hgt (by decide)
  | true =>
   exact absurd hgt (Int.not_lt.2 (signed_neg m _))
theorem log_le {m k:Nat}(hm:m≠0)(h:m<2 ^ k):m.log2<k:=(Nat.log2_lt hm).2 h
theorem within {m:Nat}{i:Int}{x:Nat}(hx:double.read x = .number false m i)(hm:m≠0)(h:double.order x 4687829947429945344=some .lt\/double.order x 4687829947429945344=some .eq):i+m.log2<=17:=by
 have hmag:=read_mag hx;unfold Format.order at h;rw[read_top,hx] at h;simp only[Datum.order,Option.some.injEq] at h
 have uB:signed false m (i-min i (-35)).toNat<=signed false 8589934592000000 (-35-min i (-35)).toNat:=by
  rcases h with h|h
  ·exact Int.le_of_lt (Std.compare_eq_lt.1 h)
  ·exact Int.le_of_eq (Std.LawfulEqCmp.eq_of_compare h)
 by_cases hi:i < -35
 ·have:=log_le hm (show m<2 ^ 53 by omega);omega
 ·have e1:min i (-35) = -35:=by omega
  rw[e1] at uB;have e2:((-35:Int) - -35).toNat=0:=by decide
  rw[e2] at uB
  have hle':(m <<< (i - -35).toNat:Nat)<=(8589934592000000 <<< 0:Nat):=by
   have:((m <<< (i - -35).toNat:Nat):Int)<=((8589934592000000 <<< 0:Nat):Int):=uB;omega
  rw[Nat.shiftLeft_eq,Nat.shiftLeft_zero] at hle'
  have hlog:m.log2+(i - -35).toNat<53:=by
   have D:2 ^ m.log2<=m:=Nat.log2_self_le hm
   have E:2 ^ (m.log2+(i - -35).toNat)<=m*2 ^ (i - -35).toNat:=by
    rw[Nat.pow_add];exact Nat.mul_le_mul_right _ D
   have h3:2 ^ (m.log2+(i - -35).toNat)<2 ^ 53:=by omega
   exact(Nat.pow_lt_pow_iff_right (by decide)).1 h3
  omega
theorem log_up {m:Nat}(hm:m≠0):(m*4503599627370496).log2=m.log2+52:=by
 have h:=(Nat.log2_eq_iff hm).1 rfl;refine(Nat.log2_eq_iff (by omega)).2 ?_;rw[Nat.pow_add,show m.log2+52+1=(m.log2+1)+52 by omega,Nat.pow_add 2 (m.log2+1) 52,show(2:Nat) ^ 52=4503599627370496 from rfl];exact⟨Nat.mul_le_mul_right _ h.1,Nat.mul_lt_mul_of_pos_right h.2 (by decide)⟩
theorem cut_le (n p drop:Nat)(hn:n<2 ^ (p+53))(hp:p<=drop)(hl:p<=n.log2+2):Toward.even.cut false n drop<=9007199254740993:=by
 unfold Toward.cut;simp only
 have M:2 ^ p<=1 <<< min drop (n.log2+2):=by
  rw[Nat.one_shiftLeft];exact Nat.pow_le_pow_right (by decide) (by omega)
 have hq:n / (1 <<< min drop (n.log2+2))<=9007199254740992:=by
  refine yN (Nat.div_le_div_left M (Nat.two_pow_pos p)) ?_
  have:n / 2 ^ p<2 ^ 53:=by
   rw[Nat.div_lt_iff_lt_mul (Nat.two_pow_pos p),<- Nat.pow_add,Nat.add_comm];exact hn
  omega
 have A:∀b:Bool,b.toNat<=1:=by decide
 have:=A (decide (1 <<< min drop (n.log2+2)<2*(n % 1 <<< min drop (n.log2+2)))||(1 <<< min drop (n.log2+2)==2*(n % 1 <<< min drop (n.log2+2))&&n / 1 <<< min drop (n.log2+2) % 2==1));omega
theorem near_le {m:Nat}{i:Int}(hm:m≠0)(hi:i+m.log2<=17):double.nearest false (m*4503599627370496) (i + -50)<1075*4503599627370496:=by
 have hmag:¬ m*4503599627370496=0:=by omega
 have hlog:=log_up hm
 have xH:m*4503599627370496<2 ^ (m.log2+53):=by
  have h:=((Nat.log2_eq_iff hm).1 rfl).2;rw[show m.log2+53=(m.log2+1)+52 by omega,Nat.pow_add 2 (m.log2+1) 52,show(2:Nat) ^ 52=4503599627370496 from rfl];exact Nat.mul_lt_mul_of_pos_right h (by decide)
 unfold Format.nearest;rw[if_neg hmag];simp only[hlog,fb,lp,bin,inf,Format.word,Bool.false_eq_true,if_false];have hlast:i + -50+((m.log2+52:Nat):Int)-(52:Nat)<=max (i + -50+((m.log2+52:Nat):Int)-(52:Nat)) (-1074):=Int.le_max_left _ _;have hup:max (i + -50+((m.log2+52:Nat):Int)-(52:Nat)) (-1074) <= -33:=Int.max_le.2 ⟨by omega,by omega⟩;generalize max (i + -50+((m.log2+52:Nat):Int)-(52:Nat)) (-1074)=last at *;have e0:(i + -50-last).toNat=0:=by omega
 rw[e0,Nat.shiftLeft_zero];have hc:=cut_le (m*4503599627370496) m.log2 (last-(i + -50)).toNat xH (by omega) (by omega);generalize Toward.even.cut false (m*4503599627370496) (last-(i + -50)).toNat=kept at *;have e1:(last - -1074).toNat<=1041:=by omega
 have e2:(last - -1074).toNat*4503599627370496<=1041*4503599627370496:=Nat.mul_le_mul_right _ e1;omega
theorem whole {r:Nat}(h:r<1075*4503599627370496):∃n:Nat,(double.read r).toInt .zero=some (n:Int)/\n<9007199254740992:=by
 have hneg:(r / 9223372036854775808 % 2==1)=false:=by simp;omega
 have hr:r % 9223372036854775808=r:=by omega
 have cutz:∀(n d:Nat),Toward.zero.cut false n d<=n:=by
  intro n d;unfold Toward.cut;simp only[Bool.toNat_false,Nat.add_zero];exact Nat.div_le_self _ _
 unfold Format.read;simp only[bin,inf,sw,hneg,hr,lp];split
 ·refine⟨Toward.zero.cut false (r <<< (-1074:Int).toNat) (1074:Int).toNat,?_,?_⟩
  ·simp[Datum.toInt,Datum.integral,signed]
  ·have:=cutz (r <<< (-1074:Int).toNat) (1074:Int).toNat;rw[show(-1074:Int).toNat=0 from rfl,Nat.shiftLeft_zero] at this |-;omega
 ·rw[if_pos (by omega)];have hi:(-1074+((r / 4503599627370496-1:Nat):Int)).toNat=0:=by omega
  refine⟨Toward.zero.cut false ((4503599627370496+r % 4503599627370496) <<< (-1074+((r / 4503599627370496-1:Nat):Int)).toNat) (-(-1074+((r / 4503599627370496-1:Nat):Int))).toNat,?_,?_⟩
  ·simp[Datum.toInt,Datum.integral,signed]
  ·have:=cutz ((4503599627370496+r % 4503599627370496) <<< (-1074+((r / 4503599627370496-1:Nat):Int)).toNat) (-(-1074+((r / 4503599627370496-1:Nat):Int))).toNat;rw[hi,Nat.shiftLeft_zero] at this |-;omega
theorem price_four {x:Nat}(h0:double.order x 0=some .gt)(D:double.order x 4687829947429945344=some .lt\/double.order x 4687829947429945344=some .eq) :
  ∃(r n:Nat),double.mul x 4616189618054758400=some r/\(double.read r).toInt .zero=some (n:Int)/\n<9007199254740992:=by
 rcases above_zero h0 with hx|⟨m,i,hx,hm⟩
 ·exfalso;unfold Format.order at D;rw[hx,read_top] at D;simp[Datum.order] at D
 ·have hw:=within hx hm D
  have oq:double.mul x 4616189618054758400=some (double.nearest false (m*4503599627370496) (i + -50)):=by
   unfold Format.mul;rw[hx,read_four];rfl
  obtain⟨n,E,h3⟩:=whole (near_le hm hw);exact⟨_,n,oq,E,h3⟩
end Go.Proofs.YtbghmldggahjiaaGreatDoor
namespace Go.Proofs.YtbghmldggahjiaaGreatDoor
open Go.RowKit
def tkR (x:Nat):Nat:=(FloatKind.f64.format.mul x 4616189618054758400).getD 0
def tkN (x:Nat):Int:=((FloatKind.f64.decode (tkR x)).toInt .zero).getD 0
def tkOk (x:Nat):Bool:=(FloatKind.f64.format.order x 0==some Ordering.gt)&&((FloatKind.f64.format.order x 4687829947429945344==some Ordering.lt)||(FloatKind.f64.format.order x 4687829947429945344==some Ordering.eq)) &&
 (FloatKind.f64.format.order (floatOfInt .f64 (tkN x)) (tkR x)==some Ordering.eq)
def tk (x:Nat):Int:=if tkOk x=true then tkN x else 0
theorem lg (x:Nat)(w:World) :
  Calls Tryz.prog 130 #[yj x] w fun e w'=>e=ym (.tuple #[H (tk x),.bool (tkOk x)])/\w'=w:=by
 by_cases h0:FloatKind.f64.format.order x 0=some Ordering.gt
 ·by_cases D:FloatKind.f64.format.order x 4687829947429945344=some Ordering.lt\/FloatKind.f64.format.order x 4687829947429945344=some Ordering.eq
  ·obtain⟨r,n,oq,cz,hn⟩:=price_four h0 D;have hn':(n:Int)<9007199254740992:=by omega
   have eR:tkR x=r:=by unfold tkR;rw[show FloatKind.f64.format.mul x 4616189618054758400=some r from oq];rfl
   have eN:tkN x=n:=by unfold tkN;rw[eR,show(FloatKind.f64.decode r).toInt .zero=some (n:Int) from cz];rfl
   have b0:(FloatKind.f64.format.order x 0==some Ordering.gt)=true:=by rw[h0];rfl
   have hm:∀W,(binOp .mul 55 (yj x) (yj 4616189618054758400)).run Tryz.prog W = .ok (yj r) W:=fun W=>by
    have:FloatKind.f64.format.mul x 4616189618054758400=some r:=oq;simp[binOp,Op.floatArith,this]
   have hc:∀W,(convert 55 3 (yj r)).run Tryz.prog W = .ok (H n) W:=fun W=>by
    have E:(FloatKind.f64.decode r).toInt .zero=some (n:Int):=cz
    have A:IntKind.i64.min<=(n:Int)/\(n:Int)<=IntKind.i64.max:=by
     rw[show IntKind.i64.min = -9223372036854775808 by decide,show IntKind.i64.max=9223372036854775807 by decide];omega
    simp[convert,run_underlying Tryz.underlying55,run_underlying Tryz.underlying3,Conv.floatToInt,E,A.1];intro h;omega
   have qv:((FloatKind.f64.format.order x 4687829947429945344==some Ordering.lt)||(FloatKind.f64.format.order x 4687829947429945344==some Ordering.eq))=true:=by
    rcases D with D|D <;> rw[D] <;> rfl
   have ql:tkOk x=(FloatKind.f64.format.order (floatOfInt .f64 n) r==some Ordering.eq):=by unfold tkOk;rw[eN,eR,b0,qv];rfl
   clear oq cz h0 qv;cases he:(FloatKind.f64.format.order (floatOfInt .f64 n) r==some Ordering.eq)
   all_goals
    have he2:(FloatKind.f64.format.order (floatOfInt .f64 n) r != some Ordering.eq) = !(FloatKind.f64.format.order (floatOfInt .f64 n) r==some Ordering.eq):=rfl;rw[he] at he2;rw[he] at ql
   ·have HT:Hid (tk x=0/\tkOk x=false):=⟨by unfold tk;rw[ql];rfl,ql⟩;clear ql eN eR;rcases D with D|D
    ·have b1:(FloatKind.f64.format.order x 4687829947429945344==some Ordering.lt)=true:=by rw[D];rfl
     have b2:(FloatKind.f64.format.order x 4687829947429945344==some Ordering.eq)=false:=by rw[D];rfl
     clear D;go_enter Tryz.func130,Tryz.ntmps130;go_wp2;go_ret2;exact⟨by rw[(Z HT).1,(Z HT).2];rfl,rfl⟩
    ·have b1:(FloatKind.f64.format.order x 4687829947429945344==some Ordering.lt)=false:=by rw[D];rfl
     have b2:(FloatKind.f64.format.order x 4687829947429945344==some Ordering.eq)=true:=by rw[D];rfl
     clear D;go_enter Tryz.func130,Tryz.ntmps130;go_wp2;go_ret2;exact⟨by rw[(Z HT).1,(Z HT).2];rfl,rfl⟩
   ·have HT:Hid (tk x=n/\tkOk x=true):=⟨by unfold tk;rw[ql,eN];rfl,ql⟩;clear ql eN eR;rcases D with D|D
    ·have b1:(FloatKind.f64.format.order x 4687829947429945344==some Ordering.lt)=true:=by rw[D];rfl
     have b2:(FloatKind.f64.format.order x 4687829947429945344==some Ordering.eq)=false:=by rw[D];rfl
     clear D;go_enter Tryz.func130,Tryz.ntmps130;go_wp2;go_ret2;exact⟨by rw[(Z HT).1,(Z HT).2];rfl,rfl⟩
    ·have b1:(FloatKind.f64.format.order x 4687829947429945344==some Ordering.lt)=false:=by rw[D];rfl
     have b2:(FloatKind.f64.format.order x 4687829947429945344==some Ordering.eq)=true:=by rw[D];rfl
     clear D;go_enter Tryz.func130,Tryz.ntmps130;go_wp2;go_ret2;exact⟨by rw[(Z HT).1,(Z HT).2];rfl,rfl⟩
  ·have b0:(FloatKind.f64.format.order x 0==some Ordering.gt)=true:=by rw[h0];rfl
   have b1:(FloatKind.f64.format.order x 4687829947429945344==some Ordering.lt)=false:=by rw[xd];exact fun h=>D (.inl h)
   have b2:(FloatKind.f64.format.order x 4687829947429945344==some Ordering.eq)=false:=by rw[xd];exact fun h=>D (.inr h)
   have ql:tkOk x=false:=by unfold tkOk;rw[b0,b1,b2];rfl
   have HT:Hid (tk x=0/\tkOk x=false):=⟨by unfold tk;rw[ql];rfl,ql⟩;clear h0 D ql;go_enter Tryz.func130,Tryz.ntmps130;go_wp2;go_ret2;exact⟨by rw[(Z HT).1,(Z HT).2];rfl,rfl⟩
 ·have b0:(FloatKind.f64.format.order x 0==some Ordering.gt)=false:=by rw[xd];exact h0
  have ql:tkOk x=false:=by unfold tkOk;rw[b0];rfl
  have HT:Hid (tk x=0/\tkOk x=false):=⟨by unfold tk;rw[ql];rfl,ql⟩;clear h0 ql;go_enter Tryz.func130,Tryz.ntmps130;go_wp2;go_ret2;exact⟨by rw[(Z HT).1,(Z HT).2];rfl,rfl⟩
end Go.Proofs.YtbghmldggahjiaaGreatDoor
