/-.-/
import Derived.Test.YtbghmldggahjiaaGreatDoorUj21
set_option linter.unusedVariables false
set_option maxHeartbeats 6400000
set_option maxRecDepth 100000
namespace Go.Proofs.YtbghmldggahjiaaGreatDoor
open Go.RowKit
theorem l04Zero_any (x:Nat)(w:World) :
  Calls Tryz.prog 217 #[yj x] w fun e w'=>e=ym (.bool (decide (fbit x=0)))/\w'=w:=by
 have HL:=Q (fun w=>bitsS_any x w);generalize fbit x=u at *
 have hdec:decide (u=0)=(((u:Nat):Int)==0):=by
  by_cases h:u=0 <;> simp[h]
 go_enter Tryz.func217,Tryz.ntmps217;go_wp2_with fail;refine(Z HL _).mono ?_;rintro e w' ⟨rfl,rfl⟩;have HD:=Q hdec;clear hdec;go_wp2_with fail;go_ret;exact⟨zO (Z HD).symm,rfl⟩
theorem l04Taker_any (next:Int)(a:Option Addr)(n cap:Nat)(c:Cm)(w:World) :
  Calls Tryz.prog 121 #[.agg #[H next,.slice a n cap],cmV c] w fun e w'=>e=ym (.agg (yw next c.s (tkS c.p) c.q c.l c.g).toArray)/\yn w w':=by
 obtain⟨k,s,t,l,q,i,p,g⟩:=c;unfold cmV;simp only;have HT:=Q (fun W=>l01Ticks_any p W);generalize tkS p=tt at HT |-;generalize tkOk p=tb at HT;go_enter Tryz.func121,Tryz.ntmps121;go_wp2_with fail;refine(Z HT _).mono ?_;rintro e w' ⟨rfl,rfl⟩;go_wp2_with fail;go_returns;exact⟨rfl,by go_grown⟩
def dW (c:Cm):Bool:=
 if c.k=1 then(c.i==0) else if c.s≠0\/c.t≠0\/c.l≠0\/fbit c.p≠0\/c.g.toList.isEmpty=false then false else((c.k==3)||(c.q==0))&&((c.k != 4)||(c.i==0))
theorem l04Form_any (c:Cm)(w:World) :
  Calls Tryz.prog 203 #[cmV c] w fun e w'=>e=ym (.bool (dW c))/\yn w w':=by
 obtain⟨k,s,t,l,q,i,p,g⟩:=c;unfold cmV;simp only
 by_cases D:k=1
 ·subst D;have HK:Hid (dW ⟨1,s,t,l,q,i,p,g⟩=(i==0)):=by show _ = _;simp[dW]
  go_enter Tryz.func203,Tryz.ntmps203;go_wp2_with fail;go_ret;exact⟨zO (Z HK).symm,by go_grown⟩
 have b1:(k==1)=false:=by rw[xd];exact D
 by_cases hs:s=0
 ·subst hs
  by_cases ht:t=0
  ·subst ht
   by_cases hl:l=0
   ·subst hl;have HZ:=Q (fun W=>l04Zero_any p W)
    have bK:Hid (∀z:Bool,decide (fbit p=0)=z->dW ⟨k,0,0,0,q,i,p,g⟩=if z=true then(if g.toList.isEmpty=false then false else((k==3)||(q==0))&&((k != 4)||(i==0))) else false):=by
     intro z hz;subst hz
     by_cases hp:fbit p=0 <;> simp[dW,D,hp]
    have HFJ:=Q (Z bK _ rfl);generalize decide (fbit p=0)=z at HZ HFJ;clear bK D;go_enter Tryz.func203,Tryz.ntmps203;go_wp2_with fail;refine(Z HZ _).mono ?_;rintro e w' ⟨rfl,rfl⟩;cases z
    ·have HK:Hid (dW ⟨k,0,0,0,q,i,p,g⟩=false):=Z HFJ;go_wp2_with fail;go_ret;exact⟨zO (Z HK).symm,by go_grown⟩
    ·have HFK:Hid (dW ⟨k,0,0,0,q,i,p,g⟩=if g.toList.isEmpty=false then false else((k==3)||(q==0))&&((k != 4)||(i==0))):=by
      show _ = _;have:=Z HFJ;simpa using this
     clear HFJ HZ;cases M:g.toList.isEmpty
     ·have bg:(!g.toList.isEmpty)=true:=by rw[M];rfl
      have HK:Hid (dW ⟨k,0,0,0,q,i,p,g⟩=false):=(Z HFK).trans (if_pos M);clear M;go_wp2_with fail;go_ret;exact⟨zO (Z HK).symm,by go_grown⟩
     have bg:(!g.toList.isEmpty)=false:=by rw[M];rfl
     have HFL:Hid (dW ⟨k,0,0,0,q,i,p,g⟩=(((k==3)||(q==0))&&((k != 4)||(i==0)))):=(Z HFK).trans (if_neg (by rw[M];simp));clear M HFK
     by_cases h3:k=3
     ·subst h3;have HK:Hid (dW ⟨3,0,0,0,q,i,p,g⟩=true):=(Z HFL).trans (by simp);go_wp2_with fail;go_ret;exact⟨zO (Z HK).symm,by go_grown⟩
     have b3:(k==3)=false:=by rw[xd];exact h3
     by_cases hq:q=0
     ·subst hq
      by_cases h4:k=4
      ·subst h4;have HK:Hid (dW ⟨4,0,0,0,0,i,p,g⟩=(i==0)):=(Z HFL).trans (by simp);clear h3;go_wp2_with fail;go_ret;exact⟨zO (Z HK).symm,by go_grown⟩
      ·have b4:(k != 4)=true:=by simpa using h4
       have HK:Hid (dW ⟨k,0,0,0,0,i,p,g⟩=true):=(Z HFL).trans (by simp[h4]);clear h3 h4;go_wp2_with fail;go_ret;exact⟨zO (Z HK).symm,by go_grown⟩
     ·have bq:(q==0)=false:=by rw[xd];exact hq
      have HK:Hid (dW ⟨k,0,0,0,q,i,p,g⟩=false):=(Z HFL).trans (by simp[h3,hq]);clear h3 hq;go_wp2_with fail;go_ret;exact⟨zO (Z HK).symm,by go_grown⟩
   ·have HK:Hid (dW ⟨k,0,0,l,q,i,p,g⟩=false):=by show _ = _;simp[dW,D,hl]
    have bl:(l != 0)=true:=by simpa using hl
    clear D hl;go_enter Tryz.func203,Tryz.ntmps203;go_wp2_with fail;go_ret;exact⟨zO (Z HK).symm,by go_grown⟩
  ·have HK:Hid (dW ⟨k,0,t,l,q,i,p,g⟩=false):=by show _ = _;simp[dW,D,ht]
   have bl:(t != 0)=true:=by simpa using ht
   clear D ht;go_enter Tryz.func203,Tryz.ntmps203;go_wp2_with fail;go_ret;exact⟨zO (Z HK).symm,by go_grown⟩
 ·have HK:Hid (dW ⟨k,s,t,l,q,i,p,g⟩=false):=by show _ = _;simp[dW,D,hs]
  have bl:(s != 0)=true:=by simpa using hs
  clear D hs;go_enter Tryz.func203,Tryz.ntmps203;go_wp2_with fail;go_ret;exact⟨zO (Z HK).symm,by go_grown⟩
end Go.Proofs.YtbghmldggahjiaaGreatDoor
namespace Go.Proofs.YtbghmldggahjiaaGreatDoor
open Go Ieee
theorem read_place {x:Nat}{s:Bool}{m:Nat}{i:Int}(h:double.read x = .number s m i):-1074<=i:=by
 unfold Format.read at h;simp only[bin,inf,sw,lp] at h;split at h
 ·simp only[Datum.number.injEq] at h;omega
 ·split at h
  ·simp only[Datum.number.injEq] at h;omega
  ·split at h <;> cases h
theorem cut_pos {n drop:Nat}(h:2 ^ drop<=n):0<Toward.even.cut false n drop:=by
 unfold Toward.cut;simp only
 have M:1 <<< min drop (n.log2+2)<=n:=by
  rw[Nat.one_shiftLeft];exact yN (Nat.pow_le_pow_right (by decide) (Nat.min_le_left _ _)) h
 have hp:0<1 <<< min drop (n.log2+2):=by rw[Nat.one_shiftLeft];exact Nat.two_pow_pos _
 have:=Nat.div_pos M hp;omega
theorem near_pos {m:Nat}{i:Int}(hm:m≠0)(hi:-1074<=i):0<double.nearest false (m*4503599627370496) (i + -50):=by
 have hmag:¬ m*4503599627370496=0:=by omega
 have hlog:=log_up hm
 have E:2 ^ (m.log2+52)<=m*4503599627370496:=by
  have h:=((Nat.log2_eq_iff hm).1 rfl).1;rw[Nat.pow_add,show(2:Nat) ^ 52=4503599627370496 from rfl];exact Nat.mul_le_mul_right _ h
 unfold Format.nearest;rw[if_neg hmag];simp only[hlog,fb,lp,bin,inf,Format.word,Bool.false_eq_true,if_false];have hlast:i + -50+((m.log2+52:Nat):Int)-(52:Nat)<=max (i + -50+((m.log2+52:Nat):Int)-(52:Nat)) (-1074):=Int.le_max_left _ _;have hup:max (i + -50+((m.log2+52:Nat):Int)-(52:Nat)) (-1074)<=i + -50+((m.log2+52:Nat):Int):=Int.max_le.2 ⟨by omega,by omega⟩;generalize max (i + -50+((m.log2+52:Nat):Int)-(52:Nat)) (-1074)=last at *;have e0:(i + -50-last).toNat=0:=by omega
 rw[e0,Nat.shiftLeft_zero];have hc:=cut_pos (n:=m*4503599627370496) (drop:=(last-(i + -50)).toNat) (yN (Nat.pow_le_pow_right (by decide) (by omega)) E);generalize Toward.even.cut false (m*4503599627370496) (last-(i + -50)).toNat=kept at *;omega
theorem four_pos {x r:Nat}(h0:double.order x 0=some .gt)(D:double.order x 4687829947429945344=some .lt\/double.order x 4687829947429945344=some .eq)(hr:double.mul x 4616189618054758400=some r):double.order 0 r≠some .eq:=by
 rcases above_zero h0 with hx|⟨m,i,hx,hm⟩
 ·exfalso;unfold Format.order at D;rw[hx,read_top] at D;simp[Datum.order] at D
 ·have hw:=within hx hm D
  have oq:double.mul x 4616189618054758400=some (double.nearest false (m*4503599627370496) (i + -50)):=by
   unfold Format.mul;rw[hx,read_four];rfl
  rw[oq] at hr;have hr:=Option.some.inj hr;have ot:=near_pos hm (read_place hx);have xH:=near_le hm hw;rw[hr] at ot xH;clear hr oq;have hneg:(r / 9223372036854775808 % 2==1)=false:=by simp;omega
  have hrr:r % 9223372036854775808=r:=by omega
  obtain⟨m',i',e,hm'⟩:∃m' i',double.read r = .number false m' i'/\m'≠0:=by
   unfold Format.read;simp only[bin,inf,sw,hneg,hrr,lp];split
   ·exact⟨_,_,rfl,by omega⟩
   ·rw[if_pos (by omega)];exact⟨_,_,rfl,by omega⟩
  unfold Format.order;rw[read_zero,e];simp only[Datum.order,ne_eq,Option.some.injEq];intro h;have h:=Std.LawfulEqCmp.eq_of_compare h;simp only[signed,Bool.false_eq_true,if_false,Nat.shiftLeft_eq,Nat.zero_mul] at h;have xy:m'*2 ^ (i'-min (-1074) i').toNat≠0:=Nat.mul_ne_zero hm' (Nat.pos_iff_ne_zero.1 (Nat.two_pow_pos _));omega
end Go.Proofs.YtbghmldggahjiaaGreatDoor
namespace Go.Proofs.YtbghmldggahjiaaGreatDoor
open Go.RowKit
theorem float_nought:floatOfInt .f64 0=0:=by decide
theorem tkS_pos {x:Nat}(h:tkOk x=true):tkS x≠0:=by
 rw[tkS_ok h];unfold tk;rw[if_pos h];unfold tkOk at h;simp only[xe,Bool.or_eq_true,beq_iff_eq] at h;obtain⟨⟨h0,D⟩,E⟩:=h;intro e;rw[e,float_nought] at E;obtain⟨r,n,hm,_⟩:=price_four h0 D
 have hr:tkR x=r:=by
  unfold tkR;rw[show FloatKind.f64.format.mul x 4616189618054758400=some r from hm];rfl
 rw[hr] at E;exact four_pos h0 D hm E
theorem fbit_zero {x:Nat}(h:fbit x=0):x=0:=by
 unfold fbit at h;split at h
 ·omega
 ·exact h
theorem tkS_zero {x:Nat}(h:fbit x=0):tkS x=0:=by
 rw[fbit_zero h];decide
theorem side_of {s:Int}(h:betB s 1 2=true):s=1\/s=2:=by
 simp[betB] at h;omega
theorem oth_of {s:Int}(h:s=1\/s=2):3-s=othS s:=by
 rcases h with rfl|rfl <;> rfl
theorem cross_meet {c:Cm}(hp:prcB c=true)(o:Od):eT c.s (tkS c.p) o=dY c o:=by
 unfold prcB at hp
 by_cases E:c.t=2
 ·rw[if_pos E] at hp;rw[tkS_zero (of_decide_eq_true hp),eT,if_pos rfl,dY,if_pos E]
 ·rw[if_neg E] at hp;rw[eT,if_neg (tkS_pos hp),dY,if_neg E,tkS_ok hp]
def NexS (l:List Od)(t:Od)(k:Int):Prop:=
 (k = -1/\(t.left=0\/dN l (othS t.side)=none \/ ∃o,dN l (othS t.side)=some o/\eT t.side t.ticks o=false)) \/
 ∃(i:Nat) (o:Od),k=i/\i<l.length/\l[i]? = some o/\dN l (othS t.side)=some o/\eT t.side t.ticks o=true/\t.left≠0
theorem front_pre {l:List Od}{sd k:Int}(hr:ew l)(h:FrPre l sd l.length k):(k = -1/\dN l sd=none) \/ ∃(i:Nat) (o:Od),k=i/\i<l.length/\l[i]? = some o/\dN l sd=some o:=by
 rcases frPre_end h with⟨rfl,vZ⟩|⟨i,o,rfl,hi,bB⟩
 ·refine .inl ⟨rfl,?_⟩;rcases front_head (s:=decide (sd=1)) (sd:=sd) hr with⟨D,_⟩|⟨j,o',D,hf'⟩
  ·exact D
  ·exact absurd hf'.2.1 (vZ o' (yO hf'.1))
 ·refine .inr ⟨i,o,rfl,hi,bB.1,?_⟩;rcases front_head (s:=decide (sd=1)) (sd:=sd) hr with⟨_,vZ⟩|⟨j,o',D,hf'⟩
  ·exact absurd bB.2.1 (vZ o (yO bB.1))
  ·rw[dN,D,(front_unique hf' bB).2]
def fdyF:List Od->Nat->Int
 | [],_=>-1
 | o::r,k=>if o.life=1 then k else fdyF r (k+1)
def fdy (l:List Od):Int:=fdyF l 0
theorem isOfDay_any (o:Od)(w:World) :
  Calls Tryz.prog 104 #[.agg (yw o.id o.side o.ticks o.left o.life o.tag).toArray] w fun e w'=>e=ym (.bool (o.life==1))/\yn w w':=by
 obtain⟨vi,side,ticks,left,life,tag⟩:=o;simp only;go_enter Tryz.func104,Tryz.ntmps104;go_wp2_with fail;go_ret;exact⟨rfl,by go_grown⟩
theorem indexDay_any (v:Value)(l:List Od)(w:World)(hr:RdR Od.vs 6 w v l) :
  Calls Tryz.prog 137 #[v,.func (.func 104) #[] #[]] w fun e w'=>e=ym (H (fdy l))/\yn w w':=by
 obtain⟨a,cap,rfl,xD,hc⟩:=hr
 have xp:∀(k:Nat) (c:Od),l[k]? = some c->∃b off,a=some (U b off)/\b<w.heap.size/\w.rangeAt b (off+k*6) c.vs:=by
  intro k c X;obtain⟨b,off,D,E,h3⟩:=hc (by intro h;rw[h] at X;simp at X);exact⟨b,off,D,E,h3 k c X⟩
 have HC:=Q xp;clear xp hc;go_enter Tryz.func137,Tryz.ntmps137;go_wp2_with fail;go_loopw [8] (fun iv wr=>∃(k:Nat),k<=l.length/\iv=H k/\Hid (fdy l=fdyF (l.drop k) k)/\yn w wr) (fun iv _=>l.length-(intOf iv).toNat)
 case atStart=>exact⟨0,Nat.zero_le _,rfl,rfl,Below.refl _ _⟩
 case round =>
  obtain⟨k,X,rfl,uJ,xk⟩:=hrel;have HB:=Q xk;clear xk
  by_cases xH:k<l.length
  ·obtain⟨c,qk⟩:∃c,l[k]? = some c:=⟨_,yH xH⟩
   have HP:Hid (fdy l=if c.life=1 then(k:Int) else fdyF (l.drop (k+1)) (k+1)):=by
    have:=Z uJ;rw[drop_get qk] at this;exact this
   obtain⟨b,off,rfl,A,xm⟩:=Z HC k c qk;obtain⟨g0,g1,g2,g3,g4,g5⟩:=zM (zd xm (Z HB) A);have uq:(k:Int)<l.length:=by omega
   clear qk xm A uJ;go_wp2_with fail;refine(isOfDay_any c wr).mono ?_;rintro e w3 ⟨rfl,xN⟩;have xZ:=Q (lW (Z HB) xN);clear xN
   by_cases uf:c.life=1
   ·have A:(c.life==1)=true:=by simpa using uf
    have HK:Hid (fdy l=k):=by have:=Z HP;rw[if_pos uf] at this;exact this
    clear uf;go_wp2_with fail;go_ret;exact⟨zt (Z HK).symm,Z xZ⟩
   ·have A:(c.life==1)=false:=by simpa using uf
    have HK:Hid (fdy l=fdyF (l.drop (k+1)) (k+1)):=by have:=Z HP;rw[if_neg uf] at this;exact this
    clear uf;go_wp2_with fail;go_roundw
    case rel=>exact⟨k+1,by omega,by go_num,Z HK,Z xZ⟩
    case measure=>simp[intOf];omega
  ·have HK:Hid (fdy l = -1):=by
    have h:=Z uJ;rw[xa (by omega)] at h;exact h
   go_wp2_with fail;go_ret;exact⟨zt (Z HK).symm,Z HB⟩
def zV (e:Ev):Cm:=if e.kind=1 then e.cmd else if e.kind=2 then e.cmd else if e.kind=6 then⟨2,0,0,0,0,e.id,0,⟨#[]⟩⟩ else if e.kind=7 then⟨3,0,0,0,e.qty,e.id,0,⟨#[]⟩⟩ else if e.kind=8 then⟨4,0,0,0,0,0,0,⟨#[]⟩⟩ else zCm
def zR (k:Int):Bool:=(k==1)||((k==2)||((k==6)||((k==7)||(k==8))))
end Go.Proofs.YtbghmldggahjiaaGreatDoor
