/-.-/
import Derived.Test.YthhkapcbocgcoaaGreatDoorKj03
import GoSem.Core.Float
import Derived.StillTailTactics
set_option linter.unusedVariables false
set_option maxHeartbeats 6400000
set_option maxRecDepth 100000
namespace Go.Proofs.YthhkapcbocgcoaaGreatDoor
open Go Ieee
theorem fb:double.fractionBits=52:=rfl
theorem lp:double.leastPlace = -1074:=by decide
theorem bin:double.binade=4503599627370496:=by decide
theorem inf:double.infRung=9218868437227405312:=by decide
theorem sw:double.signWeight=9223372036854775808:=by decide
theorem read_mag {x:Nat}{s:Bool}{m:Nat}{i:Int}(h:double.read x = .number s m i):m<9007199254740992:=by
 unfold Format.read at h;simp only[bin,inf,sw] at h;split at h
 ·simp only[Datum.number.injEq] at h;omega
 ·split at h
  ·simp only[Datum.number.injEq] at h;omega
  ·split at h <;> cases h
theorem read_zero:double.read 0 = .number false 0 (-1074):=by decide
theorem read_top:double.read 4687829947429945344 = .number false 8589934592000000 (-35):=by decide
theorem read_four:double.read 4616189618054758400 = .number false 4503599627370496 (-50):=by decide
theorem signed_neg (m a:Nat):signed true m a<=0:=by
 show -((m <<< a:Nat):Int)<=0;exact Int.neg_nonpos_of_nonneg (Int.natCast_nonneg _)
theorem above_zero {x:Nat}(h:double.order x 0=some .gt):double.read x = .infinity false \/ ∃m i,double.read x = .number false m i/\m≠0:=by
 unfold Format.order at h;rw[read_zero] at h;cases hx:double.read x with
 | nan s f=>rw[hx] at h;simp[Datum.order] at h
 | infinity s=>cases s with
  | false=>exact .inl rfl
  | true=>rw[hx] at h;simp[Datum.order] at h
 | number s m i =>
  rw[hx] at h;simp only[Datum.order,Option.some.injEq] at h;have hz:∀b,signed false 0 b=0:=fun b=>by simp[signed]
  rw[hz] at h;have pC:=Std.compare_eq_gt.1 h;cases s with
  | false =>
   refine .inr ⟨m,i,rfl,fun e=>?_⟩;subst e;rw[hz] at pC;exact absurd pC (by decide)
  | true =>
   exact absurd pC (Int.not_lt.2 (signed_neg m _))
theorem log_le {m k:Nat}(hm:m≠0)(h:m<2 ^ k):m.log2<k:=(Nat.log2_lt hm).2 h
theorem within {m:Nat}{i:Int}{x:Nat}(hx:double.read x = .number false m i)(hm:m≠0)(h:double.order x 4687829947429945344=some .lt\/double.order x 4687829947429945344=some .eq):i+m.log2<=17:=by
 have hmag:=read_mag hx;unfold Format.order at h;rw[read_top,hx] at h;simp only[Datum.order,Option.some.injEq] at h
 have qS:signed false m (i-min i (-35)).toNat<=signed false 8589934592000000 (-35-min i (-35)).toNat:=by
  rcases h with h|h
  ·exact Int.le_of_lt (Std.compare_eq_lt.1 h)
  ·exact Int.le_of_eq (Std.LawfulEqCmp.eq_of_compare h)
 by_cases hi:i < -35
 ·have:=log_le hm (show m<2 ^ 53 by omega);omega
 ·have e1:min i (-35) = -35:=by omega
  rw[e1] at qS;have e2:((-35:Int) - -35).toNat=0:=by decide
  rw[e2] at qS
  have hle':(m <<< (i - -35).toNat:Nat)<=(8589934592000000 <<< 0:Nat):=by
   have:((m <<< (i - -35).toNat:Nat):Int)<=((8589934592000000 <<< 0:Nat):Int):=qS;omega
  rw[Nat.shiftLeft_eq,Nat.shiftLeft_zero] at hle'
  have hlog:m.log2+(i - -35).toNat<53:=by
   have D:2 ^ m.log2<=m:=Nat.log2_self_le hm
   have Y:2 ^ (m.log2+(i - -35).toNat)<=m*2 ^ (i - -35).toNat:=by
    rw[Nat.pow_add];exact Nat.mul_le_mul_right _ D
   have h3:2 ^ (m.log2+(i - -35).toNat)<2 ^ 53:=by omega
   exact(Nat.pow_lt_pow_iff_right (by decide)).1 h3
  omega
theorem log_up {m:Nat}(hm:m≠0):(m*4503599627370496).log2=m.log2+52:=by
 have h:=(Nat.log2_eq_iff hm).1 rfl;refine(Nat.log2_eq_iff (by omega)).2 ?_;rw[Nat.pow_add,show m.log2+52+1=(m.log2+1)+52 by omega,Nat.pow_add 2 (m.log2+1) 52,show(2:Nat) ^ 52=4503599627370496 from rfl];exact⟨Nat.mul_le_mul_right _ h.1,Nat.mul_lt_mul_of_pos_right h.2 (by decide)⟩
theorem cut_le (n p drop:Nat)(hn:n<2 ^ (p+53))(hp:p<=drop)(hl:p<=n.log2+2):Toward.even.cut false n drop<=9007199254740993:=by
 unfold Toward.cut;simp only
 have X:2 ^ p<=1 <<< min drop (n.log2+2):=by
  rw[Nat.one_shiftLeft];exact Nat.pow_le_pow_right (by decide) (by omega)
 have hq:n / (1 <<< min drop (n.log2+2))<=9007199254740992:=by
  refine yO (Nat.div_le_div_left X (Nat.two_pow_pos p)) ?_
  have:n / 2 ^ p<2 ^ 53:=by
   rw[Nat.div_lt_iff_lt_mul (Nat.two_pow_pos p),<- Nat.pow_add,Nat.add_comm];exact hn
  omega
 have E:∀b:Bool,b.toNat<=1:=by decide
 have:=E (decide (1 <<< min drop (n.log2+2)<2*(n % 1 <<< min drop (n.log2+2)))||(1 <<< min drop (n.log2+2)==2*(n % 1 <<< min drop (n.log2+2))&&n / 1 <<< min drop (n.log2+2) % 2==1));omega
theorem near_le {m:Nat}{i:Int}(hm:m≠0)(hi:i+m.log2<=17):double.nearest false (m*4503599627370496) (i + -50)<1075*4503599627370496:=by
 have hmag:¬ m*4503599627370496=0:=by omega
 have hlog:=log_up hm
 have xM:m*4503599627370496<2 ^ (m.log2+53):=by
  have h:=((Nat.log2_eq_iff hm).1 rfl).2;rw[show m.log2+53=(m.log2+1)+52 by omega,Nat.pow_add 2 (m.log2+1) 52,show(2:Nat) ^ 52=4503599627370496 from rfl];exact Nat.mul_lt_mul_of_pos_right h (by decide)
 unfold Format.nearest;rw[if_neg hmag];simp only[hlog,fb,lp,bin,inf,Format.word,Bool.false_eq_true,if_false];have hlast:i + -50+((m.log2+52:Nat):Int)-(52:Nat)<=max (i + -50+((m.log2+52:Nat):Int)-(52:Nat)) (-1074):=Int.le_max_left _ _;have hup:max (i + -50+((m.log2+52:Nat):Int)-(52:Nat)) (-1074) <= -33:=Int.max_le.2 ⟨by omega,by omega⟩;generalize max (i + -50+((m.log2+52:Nat):Int)-(52:Nat)) (-1074)=last at *;have e0:(i + -50-last).toNat=0:=by omega
 rw[e0,Nat.shiftLeft_zero];have hc:=cut_le (m*4503599627370496) m.log2 (last-(i + -50)).toNat xM (by omega) (by omega);generalize Toward.even.cut false (m*4503599627370496) (last-(i + -50)).toNat=kept at *;have e1:(last - -1074).toNat<=1041:=by omega
 have e2:(last - -1074).toNat*4503599627370496<=1041*4503599627370496:=Nat.mul_le_mul_right _ e1;omega
theorem whole {r:Nat}(h:r<1075*4503599627370496):∃n:Nat,(double.read r).toInt .zero=some (n:Int)/\n<9007199254740992:=by
 have hneg:(r / 9223372036854775808 % 2==1)=false:=by simp;omega
 have hr:r % 9223372036854775808=r:=by omega
 have cutz:∀(n d:Nat),Toward.zero.cut false n d<=n:=by
  intro n d;unfold Toward.cut;simp only[Bool.toNat_false,Nat.add_zero];exact Nat.div_le_self _ _
 unfold Format.read;simp only[bin,inf,sw,hneg,hr,lp];split
 ·refine⟨Toward.zero.cut false (r <<< (-1074:Int).toNat) (1074:Int).toNat,?_,?_⟩
  ·simp[Datum.toInt,Datum.integral,signed]
  ·have:=cutz (r <<< (-1074:Int).toNat) (1074:Int).toNat;rw[show(-1074:Int).toNat=0 from rfl,Nat.shiftLeft_zero] at this |-;omega
 ·rw[if_pos (by omega)];have hi:(-1074+((r / 4503599627370496-1:Nat):Int)).toNat=0:=by omega
  refine⟨Toward.zero.cut false ((4503599627370496+r % 4503599627370496) <<< (-1074+((r / 4503599627370496-1:Nat):Int)).toNat) (-(-1074+((r / 4503599627370496-1:Nat):Int))).toNat,?_,?_⟩
  ·simp[Datum.toInt,Datum.integral,signed]
  ·have:=cutz ((4503599627370496+r % 4503599627370496) <<< (-1074+((r / 4503599627370496-1:Nat):Int)).toNat) (-(-1074+((r / 4503599627370496-1:Nat):Int))).toNat;rw[hi,Nat.shiftLeft_zero] at this |-;omega
theorem price_four {x:Nat}(h0:double.order x 0=some .gt)(D:double.order x 4687829947429945344=some .lt\/double.order x 4687829947429945344=some .eq) :
  ∃(r n:Nat),double.mul x 4616189618054758400=some r/\(double.read r).toInt .zero=some (n:Int)/\n<9007199254740992:=by
 rcases above_zero h0 with hx|⟨m,i,hx,hm⟩
 ·exfalso;unfold Format.order at D;rw[hx,read_top] at D;simp[Datum.order] at D
 ·have hw:=within hx hm D
  have kQ:double.mul x 4616189618054758400=some (double.nearest false (m*4503599627370496) (i + -50)):=by
   unfold Format.mul;rw[hx,read_four];rfl
  obtain⟨n,Y,h3⟩:=whole (near_le hm hw);exact⟨_,n,kQ,Y,h3⟩
end Go.Proofs.YthhkapcbocgcoaaGreatDoor
namespace Go.Proofs.YthhkapcbocgcoaaGreatDoor
open Go.RowKit
def tkR (x:Nat):Nat:=(FloatKind.f64.format.mul x 4616189618054758400).getD 0
def tkN (x:Nat):Int:=((FloatKind.f64.decode (tkR x)).toInt .zero).getD 0
def tkOk (x:Nat):Bool:=(FloatKind.f64.format.order x 0==some Ordering.gt)&&((FloatKind.f64.format.order x 4687829947429945344==some Ordering.lt)||(FloatKind.f64.format.order x 4687829947429945344==some Ordering.eq)) &&
 (FloatKind.f64.format.order (floatOfInt .f64 (tkN x)) (tkR x)==some Ordering.eq)
def tk (x:Nat):Int:=if tkOk x=true then tkN x else 0
theorem lu (x:Nat)(w:World) :
  Calls Tryz.prog 157 #[yj x] w fun e w'=>e=ym (.tuple #[H (tk x),.bool (tkOk x)])/\w'=w:=by
 by_cases h0:FloatKind.f64.format.order x 0=some Ordering.gt
 ·by_cases D:FloatKind.f64.format.order x 4687829947429945344=some Ordering.lt\/FloatKind.f64.format.order x 4687829947429945344=some Ordering.eq
  ·obtain⟨r,n,kQ,cQ,hn⟩:=price_four h0 D;have hn':(n:Int)<9007199254740992:=by omega
   have eR:tkR x=r:=by unfold tkR;rw[show FloatKind.f64.format.mul x 4616189618054758400=some r from kQ];rfl
   have eN:tkN x=n:=by unfold tkN;rw[eR,show(FloatKind.f64.decode r).toInt .zero=some (n:Int) from cQ];rfl
   have b0:(FloatKind.f64.format.order x 0==some Ordering.gt)=true:=by rw[h0];rfl
   have hm:∀W,(binOp .mul 31 (yj x) (yj 4616189618054758400)).run Tryz.prog W = .ok (yj r) W:=fun W=>by
    have:FloatKind.f64.format.mul x 4616189618054758400=some r:=kQ;simp[binOp,Op.floatArith,this]
   have hc:∀W,(convert 31 3 (yj r)).run Tryz.prog W = .ok (H n) W:=fun W=>by
    have Y:(FloatKind.f64.decode r).toInt .zero=some (n:Int):=cQ
    have E:IntKind.i64.min<=(n:Int)/\(n:Int)<=IntKind.i64.max:=by
     rw[show IntKind.i64.min = -9223372036854775808 by decide,show IntKind.i64.max=9223372036854775807 by decide];omega
    simp[convert,run_underlying Tryz.underlying31,run_underlying Tryz.underlying3,Conv.floatToInt,Y,E.1];intro h;omega
   have vT:((FloatKind.f64.format.order x 4687829947429945344==some Ordering.lt)||(FloatKind.f64.format.order x 4687829947429945344==some Ordering.eq))=true:=by
    rcases D with D|D <;> rw[D] <;> rfl
   have vD:tkOk x=(FloatKind.f64.format.order (floatOfInt .f64 n) r==some Ordering.eq):=by unfold tkOk;rw[eN,eR,b0,vT];rfl
   clear kQ cQ h0 vT;cases he:(FloatKind.f64.format.order (floatOfInt .f64 n) r==some Ordering.eq)
   all_goals
    have he2:(FloatKind.f64.format.order (floatOfInt .f64 n) r != some Ordering.eq) = !(FloatKind.f64.format.order (floatOfInt .f64 n) r==some Ordering.eq):=rfl;rw[he] at he2;rw[he] at vD
   ·have HT:Hid (tk x=0/\tkOk x=false):=⟨by unfold tk;rw[vD];rfl,vD⟩;clear vD eN eR;rcases D with D|D
    ·have b1:(FloatKind.f64.format.order x 4687829947429945344==some Ordering.lt)=true:=by rw[D];rfl
     have b2:(FloatKind.f64.format.order x 4687829947429945344==some Ordering.eq)=false:=by rw[D];rfl
     clear D;go_enter Tryz.func157,Tryz.ntmps157;go_wp2;go_ret2;exact⟨by rw[(U HT).1,(U HT).2];rfl,rfl⟩
    ·have b1:(FloatKind.f64.format.order x 4687829947429945344==some Ordering.lt)=false:=by rw[D];rfl
     have b2:(FloatKind.f64.format.order x 4687829947429945344==some Ordering.eq)=true:=by rw[D];rfl
     clear D;go_enter Tryz.func157,Tryz.ntmps157;go_wp2;go_ret2;exact⟨by rw[(U HT).1,(U HT).2];rfl,rfl⟩
   ·have HT:Hid (tk x=n/\tkOk x=true):=⟨by unfold tk;rw[vD,eN];rfl,vD⟩;clear vD eN eR;rcases D with D|D
    ·have b1:(FloatKind.f64.format.order x 4687829947429945344==some Ordering.lt)=true:=by rw[D];rfl
     have b2:(FloatKind.f64.format.order x 4687829947429945344==some Ordering.eq)=false:=by rw[D];rfl
     clear D;go_enter Tryz.func157,Tryz.ntmps157;go_wp2;go_ret2;exact⟨by rw[(U HT).1,(U HT).2];rfl,rfl⟩
    ·have b1:(FloatKind.f64.format.order x 4687829947429945344==some Ordering.lt)=false:=by rw[D];rfl
     have b2:(FloatKind.f64.format.order x 4687829947429945344==some Ordering.eq)=true:=by rw[D];rfl
     clear D;go_enter Tryz.func157,Tryz.ntmps157;go_wp2;go_ret2;exact⟨by rw[(U HT).1,(U HT).2];rfl,rfl⟩
  ·have b0:(FloatKind.f64.format.order x 0==some Ordering.gt)=true:=by rw[h0];rfl
   have b1:(FloatKind.f64.format.order x 4687829947429945344==some Ordering.lt)=false:=by rw[xe];exact fun h=>D (.inl h)
   have b2:(FloatKind.f64.format.order x 4687829947429945344==some Ordering.eq)=false:=by rw[xe];exact fun h=>D (.inr h)
   have vD:tkOk x=false:=by unfold tkOk;rw[b0,b1,b2];rfl
   have HT:Hid (tk x=0/\tkOk x=false):=⟨by unfold tk;rw[vD];rfl,vD⟩;clear h0 D vD;go_enter Tryz.func157,Tryz.ntmps157;go_wp2;go_ret2;exact⟨by rw[(U HT).1,(U HT).2];rfl,rfl⟩
 ·have b0:(FloatKind.f64.format.order x 0==some Ordering.gt)=false:=by rw[xe];exact h0
  have vD:tkOk x=false:=by unfold tkOk;rw[b0];rfl
  have HT:Hid (tk x=0/\tkOk x=false):=⟨by unfold tk;rw[vD];rfl,vD⟩;clear h0 vD;go_enter Tryz.func157,Tryz.ntmps157;go_wp2;go_ret2;exact⟨by rw[(U HT).1,(U HT).2];rfl,rfl⟩
def RG (base:World)(cs:(Nat->Value)->Act)(k:Nat)(h1:Prop->World->Nat->Value->Prop)(x:List Bool)(zb:Act)(W:World):Prop:=
 ∃f,zb=cs f/\yn base W/\∀j,x[j]? = some true->h1 (x[k]? = some true) W j (f j)
section
variable {base W W':World} {cs:(Nat->Value)->Act} {k:Nat} {h1:Prop->World->Nat->Value->Prop} {x:List Bool} {f:Nat->Value}
theorem rg_grow (hm:∀p W W' j v,yn W W'->h1 p W j v->h1 p W' j v)(E:yn base W)(h:∀j,x[j]? = some true->h1 (x[k]? = some true) W j (f j))(X:yn W W'){i:Nat}(hik:i≠k){v:Value}(hv:h1 (x[k]? = some true) W' i v) :
  yn base W'/\∀j,(x.set i true)[j]? = some true->h1 ((x.set i true)[k]? = some true) W' j (upd f i v j):=by
 refine⟨E.trans (X.mono E.size),fun j hj=>?_⟩;rw[yX hik]
 by_cases hji:j=i
 ·subst hji;rw[zo];exact hv
 ·rw[zk _ _ hji];rw[yX (fun e=>hji e.symm)] at hj;exact hm _ _ _ _ _ X (h j hj)
theorem zG (E:yn base W)(h:∀j,x[j]? = some true->h1 (x[k]? = some true) W j (f j)){i:Nat}(hik:i≠k){v:Value}(hv:h1 (x[k]? = some true) W i v) :
  yn base W/\∀j,(x.set i true)[j]? = some true->h1 ((x.set i true)[k]? = some true) W j (upd f i v j):=by
 refine⟨E,fun j hj=>?_⟩;rw[yX hik]
 by_cases hji:j=i
 ·subst hji;rw[zo];exact hv
 ·rw[zk _ _ hji];rw[yX (fun e=>hji e.symm)] at hj;exact h j hj
end
theorem set_monoG {x:List Bool}{i j:Nat}(h:x[j]? = some true):(x.set i true)[j]? = some true:=by
 by_cases aB:i=j
 ·subst aB;exact List.getElem?_set_self (yH.1 h).1
 ·rw[yX aB];exact h
def Closed (l:List Oper)(x:List Bool):Prop:=∀(i:Nat) (o:Oper),l[i]? = some o->x[i]? = some true->∀e∈o.after,Region.binds .any e=true->x[e.on]? = some true
theorem closed_step {l:List Oper}{x:List Bool}{i:Nat}{o:Oper}(h:Closed l x)(Q:l[i]? = some o)(R:∀e∈o.after,Region.binds .any e=true->x[e.on]? = some true):Closed l (x.set i true):=by
 intro j o' vW hj e he E
 by_cases hji:j=i
 ·subst hji;rw[Q] at vW;obtain rfl:=yb vW;exact set_monoG (R e he E)
 ·rw[yX (fun e=>hji e.symm)] at hj;exact set_monoG (h j o' vW hj e he E)
theorem zu {P:Program}{ho:Exit->Act->World->Prop}{l:List Oper}(xi:List Bool->Act->World->Prop){id:Nat}{a:Act}{w:World}(hm:P.follows .mixedOrders=true)
  (h0:xi (List.replicate l.length false) a { w with drawn:=w.drawn+1 })
  (vB:∀x a w,xi x a w->x.length=l.length->Region.ready .any l.toArray x.toArray = []->ho .normal a w)
  (pG:∀x a w i o,xi x a w->Closed l x->x.length=l.length->l[i]? = some o->x[i]? = some false->(∀e∈o.after,Region.binds .any e=true->x[e.on]? = some true) ->
   (if Region.wanted o (yielded l.toArray a.tmps) then o.wp P a w (fun a' w'=>xi (x.set i true) a' w') ho else xi (x.set i true) (a.put o.dst M) w)) :
  (Code.region id l.toArray true).wp P ho a w:=by
 refine iA (fun x a w=>xi x a w/\Closed l x) hm ⟨h0,fun i o _ hi=>by rw[yJ] at hi;split at hi <;> simp at hi⟩ (fun x a w h=>vB x a w h.1) ?_;intro x a w i o h hx Q xu R;have hs:=pG x a w i o h.1 h.2 hx Q xu R;have hc:=closed_step h.2 Q R;split
 ·next hw=>rw[if_pos hw] at hs;exact Oper.wp_mono (fun a' w' L=>⟨L,hc⟩) hs
 ·next hw=>rw[if_neg hw] at hs;exact⟨hs,hc⟩
theorem zD {P:Program}{id:Nat}{ho:Exit->Act->World->Prop}{a:Act}{w:World}{l:List Oper}(n:Nat)(hm:P.follows .mixedOrders=true)(hB:Region.lexTailB .any l.toArray n=true)
  (h:wpStill P l.toArray w.drew (fun a'=>wpList P l.toArray ho (l.drop n) a' w.drew) (l.take n) a):(Code.region id l.toArray true).wp P ho a w:=wp_region_still_tail n hm hB h
theorem lr {P:Program}{w:World}{o:Oper}{a:Act}{mR:Act->World->Prop}{ho:Exit->Act->World->Prop}(s x:Operand)(t:TypeId)
  (Q:o.op = .call { callee:=.builtin .append,args:=#[s,x],argTypes:=#[t,t] })
  (base:Nat) (e:TypeId) (i:TypeInfo) (size:Nat) (ht:P.underlying t=some (.slice e)) (hi:P.info? e=some i)
  (v:Value) (n:Nat) (xs:List Value) (hs:a.eval s=v) (xY:w.ownsRow base e size v n xs) (hx:a.eval x = .slice none 0 0)
  (h:mR (a.put o.dst v) w):o.wp P a w mR ho:=by
 have hrun:=run_append_owned_none (P:=P) (w:=w) base t o.type e i size ht hi v n xs xY;unfold Oper.wp;simp[execOp,Q,resolve,invoke,builtin,hs,hx,hrun,Result.andThen];exact h
theorem yf {l : List Oper}{x : List Bool}(h : Closed l x)(i : Nat){o : Oper}(Q : l[i]? = some o)(hi : x[i]? = some true)(j : Nat)(hm : (o.after.toList.any fun e => e.on==j&&Region.binds .any e)=true) : x[j]? = some true:= ye (h i o Q hi) j hm
def ahdB (a b:Od):Bool:=if a.ticks=b.ticks then decide (a.id<b.id) else(decide (b.ticks<a.ticks)==decide (a.side=1))
theorem ahd_iff (a b:Od):ahdB a b=true ↔ ahd (decide (a.side=1)) a b:=by
 unfold ahdB ahd
 by_cases h:a.ticks=b.ticks
 ·rw[if_pos h];simp only[xg];constructor
  ·exact fun D=>.inr ⟨h,D⟩
  ·rintro(D|D)
   ·rw[h] at D;exact absurd D (bt_irr _ _)
   ·exact D.2
 ·rw[if_neg h]
  by_cases hs:a.side=1
  ·simp only[hs,decide_true,beq_true,xg,bt];constructor
   ·exact fun D=>.inl D
   ·rintro(D|D)
    ·exact D
    ·exact absurd D.1 h
  ·simp only[hs,decide_false,beq_false,Bool.not_eq_true',decide_eq_false_iff_not,bt];constructor
   ·exact fun D=>.inl (by omega)
   ·rintro(D|D)
    ·omega
    ·exact absurd D.1 h
def FrPre (l:List Od)(sd:Int)(k:Nat)(best:Int):Prop:=
 (best = -1/\∀j o,j<k->l[j]? = some o->o.side≠sd) \/
 ∃(i:Nat) (o:Od),best=i/\i<k/\l[i]? = some o/\o.side=sd/\∀j o',j<k->l[j]? = some o'->o'.side=sd->j≠i->ahd (decide (sd=1)) o o'
theorem frPre_skip {l:List Od}{sd:Int}{k:Nat}{best:Int}{c:Od}(h:FrPre l sd k best)(hc:l[k]? = some c)(hs:c.side≠sd):FrPre l sd (k+1) best:=by
 rcases h with⟨rfl,h⟩|⟨i,o,rfl,D,Y,h3,h4⟩
 ·refine .inl ⟨rfl,fun j o hj Q=>?_⟩
  by_cases hjk:j=k
  ·subst hjk;rw[hc] at Q;obtain rfl:=yb Q;exact hs
  ·exact h j o (by omega) Q
 ·refine .inr ⟨i,o,rfl,by omega,Y,h3,fun j o' hj Q bV xr=>?_⟩
  by_cases hjk:j=k
  ·subst hjk;rw[hc] at Q;obtain rfl:=yb Q;exact absurd bV hs
  ·exact h4 j o' (by omega) Q bV xr
theorem frPre_first {l:List Od}{sd:Int}{k:Nat}{c:Od}(h:FrPre l sd k (-1))(hc:l[k]? = some c)(hs:c.side=sd):FrPre l sd (k+1) k:=by
 rcases h with⟨_,h⟩|⟨i,o,h0,_⟩
 ·refine .inr ⟨k,c,rfl,by omega,hc,hs,fun j o' hj Q bV xr=>?_⟩;exact absurd bV (h j o' (by omega) Q)
 ·omega
theorem rising_ne {l:List Od}(hr:eo l){i j:Nat}{a b:Od}(ha:l[i]? = some a)(E:l[j]? = some b)(xr:i≠j):a.id≠b.id:=by
 obtain⟨D,rfl⟩:=yH.1 ha;obtain⟨Y,rfl⟩:=yH.1 E;have hp:=List.pairwise_iff_getElem.1 hr;rcases Nat.lt_or_gt_of_ne xr with h|h
 ·have:=hp i j D Y h;omega
 ·have:=hp j i Y D h;omega
theorem frPre_better {l:List Od}{sd:Int}{k i:Nat}{c o:Od}(hr:eo l)(h:FrPre l sd k i)(Q:l[i]? = some o)(hc:l[k]? = some c)(hs:c.side=sd)(E:ahdB c o=true):FrPre l sd (k+1) k:=by
 rcases h with⟨h0,h⟩|⟨i',o',h0,D,Y,h3,h4⟩
 ·omega
 ·obtain rfl:i=i':=by omega
  rw[Q] at Y;obtain rfl:=Option.some.inj Y;have hco:ahd (decide (sd=1)) c o:=by rw[<- hs];exact(ahd_iff c o).1 E
  refine .inr ⟨k,c,rfl,by omega,hc,hs,fun j o' hj vW bV xr=>?_⟩
  by_cases hji:j=i
  ·subst hji;rw[Q] at vW;obtain rfl:=yb vW;exact hco
  ·exact ahd_trans hco (h4 j o' (by omega) vW bV hji)
theorem frPre_worse {l:List Od}{sd:Int}{k i:Nat}{c o:Od}(hr:eo l)(h:FrPre l sd k i)(Q:l[i]? = some o)(hc:l[k]? = some c)(hs:c.side=sd)(E:ahdB c o=false):FrPre l sd (k+1) i:=by
 rcases h with⟨h0,h⟩|⟨i',o',h0,D,Y,h3,h4⟩
 ·omega
 ·obtain rfl:i=i':=by omega
  rw[Q] at Y;obtain rfl:=Option.some.inj Y;have hnco:¬ ahd (decide (sd=1)) c o:=by rw[<- hs];intro hh;rw[(ahd_iff c o).2 hh] at E;cases E
  have hoc:ahd (decide (sd=1)) o c:=by
   rcases ahd_total (s:=decide (sd=1)) (rising_ne hr hc Q (by omega)) with hh|hh
   ·exact absurd hh hnco
   ·exact hh
  refine .inr ⟨i,o,rfl,by omega,Q,h3,fun j o' hj vW bV xr=>?_⟩
  by_cases hjk:j=k
  ·subst hjk;rw[hc] at vW;obtain rfl:=yb vW;exact hoc
  ·exact h4 j o' (by omega) vW bV xr
structure GW (W:World) where
 val:World
 property:W.grownBy val none
theorem gw_ne (W:World):Nonempty (GW W):=⟨⟨W,yS _ _⟩⟩
theorem iB {P:Program}{id:Nat}{ho:Exit->Act->World->Prop}{a:Act}{w W:World}{l:List Oper}(hm:P.follows .mixedOrders=true)(hB:Region.lexB .any l.toArray=true)(X:W.grownBy w none)
  (h:wpQuiet P l.toArray (fun w'=>∃u:GW W,w'=u.val) (fun a'=>∀w',(∃u:GW W,w'=u.val)->ho .normal a' w') l a):(Code.region id l.toArray true).wp P ho a w:=
 wp_region_quiet (C:=fun w'=>∃u:GW W,w'=u.val) hm hB ⟨⟨{ w with drawn:=w.drawn+1 },⟨X.os,X.tape,X.output,X.size,X.block⟩⟩,rfl⟩ (by simpa using h)
theorem count_setT:∀(x:List Bool) (i:Nat),x[i]? = some false->(x.set i true).count true=x.count true+1
 | [],i,h=>by simp at h
 | b::r,0,h=>by simp at h;subst h;simp
 | b::r,i+1,h=>by
  have ih:=count_setT r i (by simpa using h);simp only[List.set_cons_succ,List.count_cons];omega
def RS (B0:Nat->World->Prop)(cs:(Nat->Value)->Act)(k:Nat)(h1:Prop->World->Nat->Value->Prop)(x:List Bool)(zb:Act)(W:World):Prop:=
 ∃f,zb=cs f/\(¬ x[k]? = some true->B0 (x.count true) W)/\∀j,x[j]? = some true->h1 (x[k]? = some true) W j (f j)
section
variable {B0:Nat->World->Prop} {W W':World} {k:Nat} {h1:Prop->World->Nat->Value->Prop} {x:List Bool} {f:Nat->Value}
theorem zQ (h:∀j,x[j]? = some true->h1 (x[k]? = some true) W j (f j)){i:Nat}(hik:i≠k)(xu:x[i]? = some false)(hm:∀j v,h1 (x[k]? = some true) W j v->h1 (x[k]? = some true) W' j v)(hB:B0 (x.count true+1) W'){v:Value}(hv:h1 (x[k]? = some true) W' i v) :
  (¬ (x.set i true)[k]? = some true->B0 ((x.set i true).count true) W')/\∀j,(x.set i true)[j]? = some true->h1 ((x.set i true)[k]? = some true) W' j (upd f i v j):=by
 refine⟨fun _=>by rw[count_setT x i xu];exact hB,fun j hj=>?_⟩;rw[yX hik]
 by_cases hji:j=i
 ·subst hji;rw[zo];exact hv
 ·rw[zk _ _ hji];rw[yX (fun e=>hji e.symm)] at hj;exact hm _ _ (h j hj)
theorem rs_last (h:∀j,x[j]? = some true->h1 (x[k]? = some true) W j (f j))(hk:x[k]? = some false)(hm:∀j,j≠k->x[j]? = some true->h1 False W j (f j)->h1 True W' j (f j)){v:Value}(hv:h1 True W' k v) :
  (¬ (x.set k true)[k]? = some true->B0 ((x.set k true).count true) W')/\∀j,(x.set k true)[j]? = some true->h1 ((x.set k true)[k]? = some true) W' j (upd f k v j):=by
 have e:((x.set k true)[k]? = some true)=True:=by
  rw[List.getElem?_set_self (yH.1 hk).1];simp
 refine⟨fun hn=>absurd (by rw[e];trivial) hn,fun j hj=>?_⟩;rw[e]
 by_cases hji:j=k
 ·subst hji;rw[zo];exact hv
 ·rw[zk _ _ hji];rw[yX (fun e=>hji e.symm)] at hj;refine hm j hji hj ?_;have:=h j hj;rw[hk] at this;simpa using this
end
def difB (c y:Od):Bool:=decide (y.side≠c.side)||decide (y.ticks≠c.ticks)
def gg (c:Od)(hR:List Od):Bool:=hR.all (difB c)
theorem nlev_fresh (l:List Od)(x:Od):nlev (l ++ [x])=nlev l+(gg x l).toNat:=by
 rw[nlev_snoc];congr 1
 by_cases h:∃y∈l,y.side=x.side/\y.ticks=x.ticks
 ·rw[if_pos h]
  have:gg x l=false:=by
   obtain⟨y,D,Y,h3⟩:=h;rw[gg,List.all_eq_false];exact⟨y,D,by simp[difB,Y,h3]⟩
  rw[this];rfl
 ·rw[if_neg h]
  have:gg x l=true:=by
   rw[gg,List.all_eq_true];intro y hy;simp only[difB,ne_eq,Bool.or_eq_true,xg]
   by_cases D:y.side=x.side
   ·exact .inr fun Y=>h ⟨y,hy,D,Y⟩
   ·exact .inl D
  rw[this];rfl
def allR (next:Int):Int->List Od->Bool
 | _,[]=>true
 | last,o::r=>ordB o&&decide (last<o.id)&&decide (o.id<next)&&allR next o.id r
theorem iC {next:Int}:∀ {l:List Od} {last:Int},allR next last l=true->eo l/\∀o∈l,last<o.id
 | [],_,_=>⟨by simp[eo],by simp⟩
 | a::r,last,h=>by
  simp only[allR,xf,xg] at h;obtain⟨ih1,ih2⟩:=iC h.2;refine⟨List.pairwise_cons.2 ⟨ih2,ih1⟩,fun o Q=>?_⟩;rcases List.mem_cons.1 Q with rfl|Q
  ·exact h.1.1.2
  ·have:=ih2 o Q;have:=h.1.1.2;omega
theorem iU {next:Int}:∀ {l:List Od} {last:Int},allR next last l=true->∀o∈l,ordB o=true
 | [],_,_=>by simp
 | a::r,last,h=>by
  simp only[allR,xf,xg] at h;intro o Q;rcases List.mem_cons.1 Q with rfl|Q
  ·exact h.1.1.1
  ·exact iU h.2 o Q
def xB (a b:Od):Bool:=!(decide (a.side=1)&&decide (b.side=2))||decide (a.ticks<b.ticks)
def noX (l:List Od):Bool:=l.all fun a=>l.all fun b=>xB a b
theorem noX_iff (l:List Od):noX l=true ↔ ∀a∈l,a.side=1->∀b∈l,b.side=2->a.ticks<b.ticks:=by
 simp only[noX,List.all_eq_true,xB,Bool.or_eq_true,Bool.not_eq_true',Bool.and_eq_false_iff,decide_eq_false_iff_not,xg];constructor
 ·intro h a ha D b E Y;rcases h a ha b E with(h3|h3)|h3
  ·exact absurd D h3
  ·exact absurd Y h3
  ·exact h3
 ·intro h a ha b E
  by_cases D:a.side=1
  ·by_cases Y:b.side=2
   ·exact .inr (h a ha D b E Y)
   ·exact .inl (.inr Y)
  ·exact .inl (.inl D)
theorem noX_none1 {l:List Od}(h:∀o∈l,o.side≠1):noX l=true:=(noX_iff l).2 fun a ha D=>absurd D (h a ha)
theorem noX_none2 {l:List Od}(h:∀o∈l,o.side≠2):noX l=true:=(noX_iff l).2 fun a ha D b E Y=>absurd Y (h b E)
theorem noX_fronts {l:List Od}{i j:Nat}{a b:Od}(ha:iq true l 1 i a)(E:iq false l 2 j b):noX l=decide (a.ticks<b.ticks):=by
 rw[Bool.eq_iff_iff,noX_iff,xg];constructor
 ·exact fun h=>h a (yP ha.1) ha.2.1 b (yP E.1) E.2.1
 ·intro h x hx D y hy Y;obtain⟨m,hm⟩:=List.mem_iff_getElem?.1 hx;obtain⟨n,hn⟩:=List.mem_iff_getElem?.1 hy
  have hxa:x.ticks<=a.ticks:=by
   by_cases aD:m=i
   ·subst aD;rw[ha.1] at hm;obtain rfl:=Option.some.inj hm;exact Int.le_refl _
   ·rcases ha.2.2 m x hm D aD with h3|h3
    ·simp only[bt] at h3;omega
    ·omega
  have hyb:b.ticks<=y.ticks:=by
   by_cases hnj:n=j
   ·subst hnj;rw[E.1] at hn;obtain rfl:=Option.some.inj hn;exact Int.le_refl _
   ·rcases E.2.2 n y hn Y hnj with h3|h3
    ·simp only[bt] at h3;omega
    ·omega
  omega
theorem frPre_end {l:List Od}{sd:Int}{k:Int}(h:FrPre l sd l.length k):(k = -1/\∀o∈l,o.side≠sd) \/ ∃(i:Nat) (o:Od),k=i/\i<l.length/\iq (decide (sd=1)) l sd i o:=by
 rcases h with⟨rfl,h⟩|⟨i,o,rfl,D,Y,h3,h4⟩
 ·refine .inl ⟨rfl,fun o Q=>?_⟩;obtain⟨j,hj⟩:=List.mem_iff_getElem?.1 Q;exact h j o (yH.1 hj).1 hj
 ·exact .inr ⟨i,o,rfl,D,Y,h3,fun j o' Q hs xr=>h4 j o' (yH.1 Q).1 Q hs xr⟩
def okS (next:Int)(l:List Od):Bool:=betB next 1 1000000&&decide (l.length<=20)&&allR next 0 l&&(decide (nlev l<=8)&&noX l)
def RT (B0:World->Prop)(cs:(Nat->Value)->Act)(k h:Nat)(h1:Prop->Prop->World->Nat->Value->Prop)(x:List Bool)(zb:Act)(W:World):Prop:=
 ∃f,zb=cs f/\(¬ x[k]? = some true->B0 W)/\∀j,x[j]? = some true->h1 (x[k]? = some true) (x[h]? = some true) W j (f j)
section
variable {B0:World->Prop} {W W':World} {k h:Nat} {h1:Prop->Prop->World->Nat->Value->Prop} {x:List Bool} {f:Nat->Value}
theorem eI (hh:∀j,x[j]? = some true->h1 (x[k]? = some true) (x[h]? = some true) W j (f j)){i:Nat}(hik:i≠k)(hih:i≠h)(hm:∀j v,h1 (x[k]? = some true) (x[h]? = some true) W j v->h1 (x[k]? = some true) (x[h]? = some true) W' j v)(hB:¬ x[k]? = some true->B0 W'){v:Value}(hv:h1 (x[k]? = some true) (x[h]? = some true) W' i v) :
  (¬ (x.set i true)[k]? = some true->B0 W')/\∀j,(x.set i true)[j]? = some true->h1 ((x.set i true)[k]? = some true) ((x.set i true)[h]? = some true) W' j (upd f i v j):=by
 rw[yX hik,yX hih];refine⟨hB,fun j hj=>?_⟩
 by_cases hji:j=i
 ·subst hji;rw[zo];exact hv
 ·rw[zk _ _ hji];rw[yX (fun e=>hji e.symm)] at hj;exact hm _ _ (hh j hj)
theorem rt_one (hkh:k≠h)(hh:∀j,x[j]? = some true->h1 (x[k]? = some true) (x[h]? = some true) W j (f j))(hk:x[k]? = some false)(hn:¬ x[h]? = some true)(hm:∀j v,j≠k->h1 False False W j v->h1 True False W' j v){v:Value}(hv:h1 True False W' k v) :
  (¬ (x.set k true)[k]? = some true->B0 W')/\∀j,(x.set k true)[j]? = some true->h1 ((x.set k true)[k]? = some true) ((x.set k true)[h]? = some true) W' j (upd f k v j):=by
 have e:((x.set k true)[k]? = some true)=True:=by
  rw[List.getElem?_set_self (yH.1 hk).1];simp
 have e2:((x.set k true)[h]? = some true)=False:=by
  rw[yX hkh];exact eq_false hn
 have e3:(x[h]? = some true)=False:=eq_false hn;have e4:(x[k]? = some true)=False:=by rw[hk];simp
 rw[e,e2];refine⟨fun h=>absurd trivial h,fun j hj=>?_⟩
 by_cases hji:j=k
 ·subst hji;rw[zo];exact hv
 ·rw[zk _ _ hji];rw[yX (fun e=>hji e.symm)] at hj;have:=hh j hj;rw[e3,e4] at this;exact hm j _ hji this
theorem rt_two (hkh:h≠k)(hh:∀j,x[j]? = some true->h1 (x[k]? = some true) (x[h]? = some true) W j (f j))(hk:x[k]? = some true)(hn:x[h]? = some false)(hm:∀j,j≠h->x[j]? = some true->h1 True False W j (f j)->h1 True True W' j (f j)){v:Value}(hv:h1 True True W' h v) :
  (¬ (x.set h true)[k]? = some true->B0 W')/\∀j,(x.set h true)[j]? = some true->h1 ((x.set h true)[k]? = some true) ((x.set h true)[h]? = some true) W' j (upd f h v j):=by
 have e:((x.set h true)[h]? = some true)=True:=by
  rw[List.getElem?_set_self (yH.1 hn).1];simp
 have e2:((x.set h true)[k]? = some true)=True:=by
  rw[yX hkh,hk];simp
 have e3:(x[h]? = some true)=False:=by rw[hn];simp
 have e4:(x[k]? = some true)=True:=by rw[hk];simp
 rw[e,e2];refine⟨fun h=>absurd trivial h,fun j hj=>?_⟩
 by_cases hji:j=h
 ·subst hji;rw[zo];exact hv
 ·rw[zk _ _ hji];rw[yX (fun e=>hji e.symm)] at hj;have:=hh j hj;rw[e3,e4] at this;exact hm j hji hj this
end
end Go.Proofs.YthhkapcbocgcoaaGreatDoor
