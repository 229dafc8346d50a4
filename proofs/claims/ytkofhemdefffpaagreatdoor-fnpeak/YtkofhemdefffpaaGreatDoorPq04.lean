/-.-/
import Derived.Test.YtkofhemdefffpaaGreatDoorPq01
import Derived.Laws.Externs
import GoSem.Core.Float
import Derived.StillTailTactics
set_option linter.unusedVariables false
set_option maxHeartbeats 6400000
set_option maxRecDepth 100000
namespace Go.Proofs.YtkofhemdefffpaaGreatDoor
open Go.RowKit
def nanB (x:Nat):Bool:=FloatKind.f64.format.order x x != some Ordering.eq
theorem datum_self (d:Ieee.Datum)(h:¬ d.isNaN=true):d.order d=some Ordering.eq:=by
 cases d with
 | nan s f=>simp[Ieee.Datum.isNaN] at h
 | infinity s=>cases s <;> rfl
 | number s m i=>simp[Ieee.Datum.order,Std.ReflCmp.compare_self]
theorem fbits (x:Nat)(w:World):(callFunc 112 #[yk x]).run Tryz.prog w = .ok (.value (.int .u64 x)) w:=by
 rw[run_callFunc_extern (e:=Extern.MathFloatBits.float64bits) Tryz.func112 (by kernel_rfl) (by kernel_rfl) (by kernel_rfl) (by kernel_rfl)];rfl
theorem ln (x:Nat)(w:World) :
  Calls Tryz.prog 212 #[yk x] w fun e w'=>e=yn (.bool (nanB x))/\w'=w:=by
 go_enter Tryz.func212,Tryz.ntmps212;go_wp2;go_ret;exact⟨rfl,rfl⟩
def fbit (x:Nat):Nat:=if nanB x=true then 9221120237041090560 else x
theorem floatBits_any (x:Nat)(w:World) :
  Calls Tryz.prog 202 #[yk x] w fun e w'=>e=yn (.int .u64 (fbit x))/\w'=w:=by
 have K:=fbits;cases h:nanB x
 case true =>
  have HX:Hid (fbit x=9221120237041090560):=if_pos h;go_enter Tryz.func202,Tryz.ntmps202;go_wp2_with (go_at_call 212;refine(ln _ _).mono ?_;rintro e w' ⟨rfl,rfl⟩);go_ret;exact⟨by rw[O HX];rfl,rfl⟩
 case false =>
  have HX:Hid (fbit x=x):=if_neg (by rw[h];decide);go_enter Tryz.func202,Tryz.ntmps202;go_wp2_with (go_at_call 212;refine(ln _ _).mono ?_;rintro e w' ⟨rfl,rfl⟩);go_ret;exact⟨by rw[O HX];rfl,rfl⟩
theorem takeR {α:Type}(l:List α)(k:Nat)(c:α)(h:l[k]? = some c):l.take (k+1)=l.take k ++ [c]:=by
 obtain⟨E,rfl⟩:=yH.1 h;rw[List.take_succ_eq_append_getElem E]
theorem Tryz.infoOrder:(Tryz.prog.info? 71).map (fun i=>(i.zero,i.size,i.bytes))=some (some (.agg (yx 0 0 0 0 0 ⟨#[]⟩).toArray),6,56):=by kernel_rfl
def betB (n a b:Int):Bool:=decide (a<=n)&&decide (n<=b)
theorem iQ (n a b:Int)(w:World) :
  Calls Tryz.prog 74 #[H n,H a,H b] w fun e w'=>e=yn (.bool (betB n a b))/\w'=w:=by
 go_enter Tryz.func74,Tryz.ntmps74;go_wp2
 all_goals go_ret
 all_goals exact⟨zB (by rw[Bool.eq_iff_iff];simp[betB];omega),rfl⟩
theorem isSide_any (n:Int)(w:World) :
  Calls Tryz.prog 175 #[H n] w fun e w'=>e=yn (.bool (betB n 1 2))/\w'=w:=by
 go_enter Tryz.func175,Tryz.ntmps175;go_wp2
 all_goals go_ret
 all_goals exact⟨zB (by rw[Bool.eq_iff_iff];simp[betB];omega),rfl⟩
theorem isLife_any (n:Int)(w:World) :
  Calls Tryz.prog 177 #[H n] w fun e w'=>e=yn (.bool (betB n 0 1))/\w'=w:=by
 go_enter Tryz.func177,Tryz.ntmps177;go_wp2
 all_goals go_ret
 all_goals exact⟨zB (by rw[Bool.eq_iff_iff];simp[betB];omega),rfl⟩
def tagC (c:UInt8):Bool:=betB c.toNat 32 126
def tagB (s:ByteArray):Bool:=decide (s.size<=12)&&s.data.toList.all tagC
theorem drop_cons (s:ByteArray)(k:Nat)(h:k<s.size):s.data.toList.drop k=s[k]::s.data.toList.drop (k+1):=by
 rw[get_nat s k h];exact xd (by rw[data_len];exact h)
theorem tag_yes (s:ByteArray)(h:s.size<=12)(E:s.data.toList.all tagC=true):tagB s=true:=by simp only[tagB,E,decide_eq_true h,Bool.and_true]
theorem tag_long (s:ByteArray)(h:¬ s.size<=12):tagB s=false:=by simp only[tagB,decide_eq_false h,Bool.false_and]
theorem tag_no (s:ByteArray)(E:s.data.toList.all tagC=false):tagB s=false:=by simp only[tagB,E,Bool.and_false]
theorem isTag_any (s:ByteArray)(w:World)(hs:s.size<=maxLen) :
  Calls Tryz.prog 180 #[yl s] w fun e w'=>e=yn (.bool (tagB s))/\w'=w:=by
 unfold maxLen at hs
 by_cases hl:s.size<=12
 ·have hl':¬ ((12:Int)<s.size):=by omega
  go_enter Tryz.func180,Tryz.ntmps180;go_wp2_with fail
  go_loop [9] (fun i=>∃k:Nat,k<=s.size/\i=H k/\Hid (s.data.toList.all tagC=(s.data.toList.drop k).all tagC)) (fun i=>s.size-(intOf i).toNat)
  case atStart=>exact⟨0,Nat.zero_le _,rfl,by simp[Hid]⟩
  case round =>
   obtain⟨k,E,rfl,X⟩:=hrel
   by_cases xK:k<s.size
   ·have ux:(k:Int)<s.size:=by omega
    have jm:=drop_cons s k xK;have hgen:∃c,c=s[k]:=⟨_,rfl⟩;obtain⟨c,hc⟩:=hgen
    have hw:betB (wrap64 (s[k].toNat:Int)) 32 126=tagC c:=by
     have hlt256:=UInt8.toNat_lt s[k];rw[hc,show wrap64 (s[k].toNat:Int)=(s[k].toNat:Int) by unfold wrap64;omega];rfl
    cases ht:tagC c
    ·rw[ht] at hw
     have HT:Hid (s.data.toList.all tagC=false):=by
      have:=O X;rw[jm,List.all_cons,<- hc,ht,Bool.false_and] at this;exact this
     clear jm hc ht;go_wp2_with fail;refine(iQ (wrap64 (s[k].toNat:Int)) 32 126 w).mono ?_;rintro e w1 ⟨rfl,rfl⟩;go_wp2_with fail;go_ret;exact⟨zB (tag_no s (O HT)).symm,rfl⟩
    ·rw[ht] at hw
     have HN:Hid (s.data.toList.all tagC=(s.data.toList.drop (k+1)).all tagC):=by
      have:=O X;rw[jm,List.all_cons,<- hc,ht,Bool.true_and] at this;exact this
     clear jm hc ht;go_wp2_with fail;refine(iQ (wrap64 (s[k].toNat:Int)) 32 126 w).mono ?_;rintro e w1 ⟨rfl,rfl⟩;go_wp2_with fail
     go_round
     case rel=>exact⟨k+1,by omega,by go_num,O HN⟩
     case measure=>simp[intOf];omega
   ·go_wp2_with fail;go_ret;have h:=O X;rw[xb (by rw[data_len];omega)] at h;exact⟨zB (tag_yes s hl (by rw[h];rfl)).symm,rfl⟩
 ·have hl':(12:Int)<s.size:=by omega
  go_enter Tryz.func180,Tryz.ntmps180;go_wp2_with fail;go_ret;exact⟨zB (tag_long s hl).symm,rfl⟩
def ordB (o:Od):Bool:=betB o.side 1 2&&betB o.life 0 1&&tagB o.tag&&betB o.ticks 1 1000000&&betB o.left 1 1000000
theorem count_set:∀(x:List Bool) (i:Nat),x[i]? = some false->(x.set i true).count false+1=x.count false
 | [],i,h=>by simp at h
 | b::r,0,h=>by simp at h;subst h;simp
 | b::r,i+1,h=>by
  have ih:=count_set r i (by simpa using h);simp only[List.set_cons_succ,List.count_cons];omega
theorem no_false {x:List Bool}(h:x.count false=0)(i:Nat):x[i]? ≠ some false:=fun e=>by
 have:=List.count_pos_iff.2 (yP e);omega
section
variable {P:Program} {h2:Exit->Act->World->Prop} {l:List Oper} (R:List Bool->Act->World->Prop)
theorem ready_facts {x:List Bool}(hx:x.length=l.length){i:Nat}(h:i∈Region.ready .any l.toArray x.toArray) :
  ∃o,l[i]? = some o/\x[i]? = some false/\∀e∈o.after,Region.binds .any e=true->x[e.on]? = some true:=by
 obtain⟨Z,o,Q,I⟩:=mem_ready.1 h;refine⟨o,by simpa using Q,?_,fun e he K=>?_⟩
 ·by_cases hi:i<x.length
  ·simp[hi] at Z;simp[hi,Z]
  ·simp[hi] at Z
 ·have:=I e he K
  by_cases hi:e.on<x.length
  ·simp[hi] at this;simp[hi,this]
  ·simp[hi] at this
theorem ready_none {x:List Bool}(h:Region.ready .any l.toArray x.toArray = [])(hx:x.length=l.length)(i:Nat)(o:Oper)(D:l[i]? = some o)(X:∀e∈o.after,Region.binds .any e=true->x[e.on]? = some true):x[i]? = some true:=by
 have hi:i<x.length:=by rw[hx];exact(yH.1 D).1
 cases K:x[i]
 ·exfalso
  have:i∈Region.ready .any l.toArray x.toArray:=mem_ready.2 ⟨by simp[hi,K],o,by simpa using D,fun e he hbd=>by
   have:=X e he hbd;obtain⟨Z,Q⟩:=yH.1 this;simp[Z,Q]⟩
  rw[h] at this;simp at this
 ·simp[hi,K]
theorem wpAny_inv
  (vE:∀x a w,R x a w->x.length=l.length->Region.ready .any l.toArray x.toArray = []->h2 .normal a w)
  (pf:∀x a w i o,R x a w->x.length=l.length->l[i]? = some o->x[i]? = some false->(∀e∈o.after,Region.binds .any e=true->x[e.on]? = some true) ->
   (if Region.wanted o (yielded l.toArray a.tmps) then o.wp P a w (fun a' w'=>R (x.set i true) a' w') h2 else R (x.set i true) (a.put o.dst M) w)) :
  ∀(n:Nat) (x:List Bool) (a:Act) (w:World),x.count false=n->x.length=l.length->R x a w->wpAny P .any l.toArray h2 n x.toArray a w
 | 0,x,a,w,hn,hx,hR=>by
  have hr:Region.ready .any l.toArray x.toArray = []:=by
   apply List.eq_nil_iff_forall_not_mem.2;intro i hi;obtain⟨o,_,Q,_⟩:=ready_facts hx hi;exact no_false hn i Q
  exact⟨hr,vE x a w hR hx hr⟩
 | n+1,x,a,w,hn,hx,hR=>by
  refine⟨fun hr=>vE x a w hR hx hr,fun i hi=>?_⟩;obtain⟨o,Z,Q,I⟩:=ready_facts hx hi;have hs:=pf x a w i o hR hx Z Q I;have hc:=count_set x i Q
  have hnext:∀a' w',R (x.set i true) a' w'->wpAny P .any l.toArray h2 n (x.toArray.setIfInBounds i true) a' w':=fun a' w' h=>by
   have:=wpAny_inv vE pf n (x.set i true) a' w' (by omega) (by simpa using hx) h;simpa using this
  have D:l.toArray[i]? = some o:=by simpa using Z
  unfold wpOp;rw[D];simp only;split
  ·next hw=>rw[if_pos hw] at hs;exact .inl (Oper.wp_mono hnext hs)
  ·next hw=>rw[if_neg hw] at hs;exact hnext _ _ hs
theorem iS {id:Nat}{a:Act}{w:World}(hm:P.follows .mixedOrders=true)
  (h0:R (List.replicate l.length false) a { w with drawn:=w.drawn+1 })
  (vE:∀x a w,R x a w->x.length=l.length->Region.ready .any l.toArray x.toArray = []->h2 .normal a w)
  (pf:∀x a w i o,R x a w->x.length=l.length->l[i]? = some o->x[i]? = some false->(∀e∈o.after,Region.binds .any e=true->x[e.on]? = some true) ->
   (if Region.wanted o (yielded l.toArray a.tmps) then o.wp P a w (fun a' w'=>R (x.set i true) a' w') h2 else R (x.set i true) (a.put o.dst M) w)) :
  (Code.region id l.toArray true).wp P h2 a w:=by
 refine wp_region_any hm ?_;have:=wpAny_inv R vE pf l.length (List.replicate l.length false) a { w with drawn:=w.drawn+1 } (by simp) (by simp) h0;simpa using this
end
def RGrow (base:World)(hg:(Nat->Value)->Act)(C:Nat->Value->Prop)(x:List Bool)(md:Act)(W:World):Prop:=
 ∃f,md=hg f/\yp base W/\∀j,x[j]? = some true->C j (f j)
theorem zP {C:Nat->Value->Prop}{x:List Bool}{f:Nat->Value}{i:Nat}{v:Value}(h:∀j,x[j]? = some true->C j (f j))(hv:C i v):∀j,(x.set i true)[j]? = some true->C j (upd f i v j):=fun j hj=>by
 by_cases hji:j=i
 ·subst hji;rw[zp];exact hv
 ·rw[zu _ _ hji];rw[yX (fun e=>hji e.symm)] at hj;exact h j hj
theorem eM {l:List Oper}{x:List Bool}(h:Region.ready .any l.toArray x.toArray = [])(hx:x.length=l.length)(hacy:∀(i:Nat) (o:Oper),l[i]? = some o->∀e∈o.after,e.on<i):∀i,i<l.length->x[i]? = some true:=by
 intro i
 induction i using Nat.strongRecOn with
 | _ i ih =>
  intro hi;refine ready_none h hx i l[i] (yI hi) fun e he _=>?_;have:=hacy i l[i] (yI hi) e he;exact ih e.on this (by omega)
end Go.Proofs.YtkofhemdefffpaaGreatDoor
namespace Go.Proofs.YtkofhemdefffpaaGreatDoor
open Go Ieee
theorem fb:double.fractionBits=52:=rfl
theorem lp:double.leastPlace = -1074:=by decide
theorem bin:double.binade=4503599627370496:=by decide
theorem inf:double.infRung=9218868437227405312:=by decide
theorem sw:double.signWeight=9223372036854775808:=by decide
theorem read_mag {x:Nat}{s:Bool}{m:Nat}{i:Int}(h:double.read x = .number s m i):m<9007199254740992:=by
 unfold Format.read at h;simp only[bin,inf,sw] at h;split at h
 ·simp only[Datum.number.injEq] at h;omega
 ·split at h
  ·simp only[Datum.number.injEq] at h;omega
  ·split at h <;> cases h
theorem read_zero:double.read 0 = .number false 0 (-1074):=by decide
theorem read_top:double.read 4687829947429945344 = .number false 8589934592000000 (-35):=by decide
theorem read_four:double.read 4616189618054758400 = .number false 4503599627370496 (-50):=by decide
theorem signed_neg (m a:Nat):signed true m a<=0:=by
 show -((m <<< a:Nat):Int)<=0;exact Int.neg_nonpos_of_nonneg (Int.natCast_nonneg _)
theorem above_zero {x:Nat}(h:double.order x 0=some .gt):double.read x = .infinity false \/ ∃m i,double.read x = .number false m i/\m≠0:=by
 unfold Format.order at h;rw[read_zero] at h;cases hx:double.read x with
 | nan s f=>rw[hx] at h;simp[Datum.order] at h
 | infinity s=>cases s with
  | false=>exact .inl rfl
  | true=>rw[hx] at h;simp[Datum.order] at h
 | number s m i =>
  rw[hx] at h;simp only[Datum.order,Option.some.injEq] at h;have hz:∀b,signed false 0 b=0:=fun b=>by simp[signed]
  rw[hz] at h;have hgt:=Std.compare_eq_gt.1 h;cases s with
  | false =>
   refine .inr ⟨m,i,rfl,fun e=>?_⟩;subst e;rw[hz] at hgt;exact absurd hgt (by decide)
  | true =>
   exact absurd hgt (Int.not_lt.2 (signed_neg m _))
theorem log_le {m k:Nat}(hm:m≠0)(h:m<2 ^ k):m.log2<k:=(Nat.log2_lt hm).2 h
theorem within {m:Nat}{i:Int}{x:Nat}(hx:double.read x = .number false m i)(hm:m≠0)(h:double.order x 4687829947429945344=some .lt\/double.order x 4687829947429945344=some .eq):i+m.log2<=17:=by
 have hmag:=read_mag hx;unfold Format.order at h;rw[read_top,hx] at h;simp only[Datum.order,Option.some.injEq] at h
 have uJ:signed false m (i-min i (-35)).toNat<=signed false 8589934592000000 (-35-min i (-35)).toNat:=by
  rcases h with h|h
  ·exact Int.le_of_lt (Std.compare_eq_lt.1 h)
  ·exact Int.le_of_eq (Std.LawfulEqCmp.eq_of_compare h)
 by_cases hi:i < -35
 ·have:=log_le hm (show m<2 ^ 53 by omega);omega
 ·have e1:min i (-35) = -35:=by omega
  rw[e1] at uJ;have e2:((-35:Int) - -35).toNat=0:=by decide
  rw[e2] at uJ
  have hle':(m <<< (i - -35).toNat:Nat)<=(8589934592000000 <<< 0:Nat):=by
   have:((m <<< (i - -35).toNat:Nat):Int)<=((8589934592000000 <<< 0:Nat):Int):=uJ;omega
  rw[Nat.shiftLeft_eq,Nat.shiftLeft_zero] at hle'
  have hlog:m.log2+(i - -35).toNat<53:=by
   have Z:2 ^ m.log2<=m:=Nat.log2_self_le hm
   have Q:2 ^ (m.log2+(i - -35).toNat)<=m*2 ^ (i - -35).toNat:=by
    rw[Nat.pow_add];exact Nat.mul_le_mul_right _ Z
   have I:2 ^ (m.log2+(i - -35).toNat)<2 ^ 53:=by omega
   exact(Nat.pow_lt_pow_iff_right (by decide)).1 I
  omega
theorem log_up {m:Nat}(hm:m≠0):(m*4503599627370496).log2=m.log2+52:=by
 have h:=(Nat.log2_eq_iff hm).1 rfl;refine(Nat.log2_eq_iff (by omega)).2 ?_;rw[Nat.pow_add,show m.log2+52+1=(m.log2+1)+52 by omega,Nat.pow_add 2 (m.log2+1) 52,show(2:Nat) ^ 52=4503599627370496 from rfl];exact⟨Nat.mul_le_mul_right _ h.1,Nat.mul_lt_mul_of_pos_right h.2 (by decide)⟩
theorem cut_le (n p drop:Nat)(hn:n<2 ^ (p+53))(hp:p<=drop)(hl:p<=n.log2+2):Toward.even.cut false n drop<=9007199254740993:=by
 unfold Toward.cut;simp only
 have F:2 ^ p<=1 <<< min drop (n.log2+2):=by
  rw[Nat.one_shiftLeft];exact Nat.pow_le_pow_right (by decide) (by omega)
 have hq:n / (1 <<< min drop (n.log2+2))<=9007199254740992:=by
  refine yO (Nat.div_le_div_left F (Nat.two_pow_pos p)) ?_
  have:n / 2 ^ p<2 ^ 53:=by
   rw[Nat.div_lt_iff_lt_mul (Nat.two_pow_pos p),<- Nat.pow_add,Nat.add_comm];exact hn
  omega
 have K:∀b:Bool,b.toNat<=1:=by decide
 have:=K (decide (1 <<< min drop (n.log2+2)<2*(n % 1 <<< min drop (n.log2+2)))||(1 <<< min drop (n.log2+2)==2*(n % 1 <<< min drop (n.log2+2))&&n / 1 <<< min drop (n.log2+2) % 2==1));omega
theorem near_le {m:Nat}{i:Int}(hm:m≠0)(hi:i+m.log2<=17):double.nearest false (m*4503599627370496) (i + -50)<1075*4503599627370496:=by
 have hmag:¬ m*4503599627370496=0:=by omega
 have hlog:=log_up hm
 have xK:m*4503599627370496<2 ^ (m.log2+53):=by
  have h:=((Nat.log2_eq_iff hm).1 rfl).2;rw[show m.log2+53=(m.log2+1)+52 by omega,Nat.pow_add 2 (m.log2+1) 52,show(2:Nat) ^ 52=4503599627370496 from rfl];exact Nat.mul_lt_mul_of_pos_right h (by decide)
 unfold Format.nearest;rw[if_neg hmag];simp only[hlog,fb,lp,bin,inf,Format.word,Bool.false_eq_true,if_false];have hlast:i + -50+((m.log2+52:Nat):Int)-(52:Nat)<=max (i + -50+((m.log2+52:Nat):Int)-(52:Nat)) (-1074):=Int.le_max_left _ _;have hup:max (i + -50+((m.log2+52:Nat):Int)-(52:Nat)) (-1074) <= -33:=Int.max_le.2 ⟨by omega,by omega⟩;generalize max (i + -50+((m.log2+52:Nat):Int)-(52:Nat)) (-1074)=last at *;have e0:(i + -50-last).toNat=0:=by omega
 rw[e0,Nat.shiftLeft_zero];have hc:=cut_le (m*4503599627370496) m.log2 (last-(i + -50)).toNat xK (by omega) (by omega);generalize Toward.even.cut false (m*4503599627370496) (last-(i + -50)).toNat=kept at *;have e1:(last - -1074).toNat<=1041:=by omega
 have e2:(last - -1074).toNat*4503599627370496<=1041*4503599627370496:=Nat.mul_le_mul_right _ e1;omega
theorem whole {r:Nat}(h:r<1075*4503599627370496):∃n:Nat,(double.read r).toInt .zero=some (n:Int)/\n<9007199254740992:=by
 have hneg:(r / 9223372036854775808 % 2==1)=false:=by simp;omega
 have hr:r % 9223372036854775808=r:=by omega
 have cutz:∀(n d:Nat),Toward.zero.cut false n d<=n:=by
  intro n d;unfold Toward.cut;simp only[Bool.toNat_false,Nat.add_zero];exact Nat.div_le_self _ _
 unfold Format.read;simp only[bin,inf,sw,hneg,hr,lp];split
 ·refine⟨Toward.zero.cut false (r <<< (-1074:Int).toNat) (1074:Int).toNat,?_,?_⟩
  ·simp[Datum.toInt,Datum.integral,signed]
  ·have:=cutz (r <<< (-1074:Int).toNat) (1074:Int).toNat;rw[show(-1074:Int).toNat=0 from rfl,Nat.shiftLeft_zero] at this |-;omega
 ·rw[if_pos (by omega)];have hi:(-1074+((r / 4503599627370496-1:Nat):Int)).toNat=0:=by omega
  refine⟨Toward.zero.cut false ((4503599627370496+r % 4503599627370496) <<< (-1074+((r / 4503599627370496-1:Nat):Int)).toNat) (-(-1074+((r / 4503599627370496-1:Nat):Int))).toNat,?_,?_⟩
  ·simp[Datum.toInt,Datum.integral,signed]
  ·have:=cutz ((4503599627370496+r % 4503599627370496) <<< (-1074+((r / 4503599627370496-1:Nat):Int)).toNat) (-(-1074+((r / 4503599627370496-1:Nat):Int))).toNat;rw[hi,Nat.shiftLeft_zero] at this |-;omega
theorem price_four {x:Nat}(h0:double.order x 0=some .gt)(Z:double.order x 4687829947429945344=some .lt\/double.order x 4687829947429945344=some .eq) :
  ∃(r n:Nat),double.mul x 4616189618054758400=some r/\(double.read r).toInt .zero=some (n:Int)/\n<9007199254740992:=by
 rcases above_zero h0 with hx|⟨m,i,hx,hm⟩
 ·exfalso;unfold Format.order at Z;rw[hx,read_top] at Z;simp[Datum.order] at Z
 ·have hw:=within hx hm Z
  have kG:double.mul x 4616189618054758400=some (double.nearest false (m*4503599627370496) (i + -50)):=by
   unfold Format.mul;rw[hx,read_four];rfl
  obtain⟨n,Q,I⟩:=whole (near_le hm hw);exact⟨_,n,kG,Q,I⟩
end Go.Proofs.YtkofhemdefffpaaGreatDoor
namespace Go.Proofs.YtkofhemdefffpaaGreatDoor
open Go.RowKit
def ahdB (a b:Od):Bool:=if a.ticks=b.ticks then decide (a.id<b.id) else(decide (b.ticks<a.ticks)==decide (a.side=1))
theorem ahd_iff (a b:Od):ahdB a b=true ↔ ahd (decide (a.side=1)) a b:=by
 unfold ahdB ahd
 by_cases h:a.ticks=b.ticks
 ·rw[if_pos h];simp only[xg];constructor
  ·exact fun Z=>.inr ⟨h,Z⟩
  ·rintro(Z|Z)
   ·rw[h] at Z;exact absurd Z (gu _ _)
   ·exact Z.2
 ·rw[if_neg h]
  by_cases hs:a.side=1
  ·simp only[hs,decide_true,beq_true,xg,bt];constructor
   ·exact fun Z=>.inl Z
   ·rintro(Z|Z)
    ·exact Z
    ·exact absurd Z.1 h
  ·simp only[hs,decide_false,beq_false,Bool.not_eq_true',decide_eq_false_iff_not,bt];constructor
   ·exact fun Z=>.inl (by omega)
   ·rintro(Z|Z)
    ·omega
    ·exact absurd Z.1 h
def FrPre (l:List Od)(sd:Int)(k:Nat)(best:Int):Prop:=
 (best = -1/\∀j o,j<k->l[j]? = some o->o.side≠sd) \/
 ∃(i:Nat) (o:Od),best=i/\i<k/\l[i]? = some o/\o.side=sd/\∀j o',j<k->l[j]? = some o'->o'.side=sd->j≠i->ahd (decide (sd=1)) o o'
theorem frPre_skip {l:List Od}{sd:Int}{k:Nat}{best:Int}{c:Od}(h:FrPre l sd k best)(hc:l[k]? = some c)(hs:c.side≠sd):FrPre l sd (k+1) best:=by
 rcases h with⟨rfl,h⟩|⟨i,o,rfl,Z,Q,I,h4⟩
 ·refine .inl ⟨rfl,fun j o hj D=>?_⟩
  by_cases hjk:j=k
  ·subst hjk;rw[hc] at D;obtain rfl:=yc D;exact hs
  ·exact h j o (by omega) D
 ·refine .inr ⟨i,o,rfl,by omega,Q,I,fun j o' hj D bh xE=>?_⟩
  by_cases hjk:j=k
  ·subst hjk;rw[hc] at D;obtain rfl:=yc D;exact absurd bh hs
  ·exact h4 j o' (by omega) D bh xE
theorem frPre_first {l:List Od}{sd:Int}{k:Nat}{c:Od}(h:FrPre l sd k (-1))(hc:l[k]? = some c)(hs:c.side=sd):FrPre l sd (k+1) k:=by
 rcases h with⟨_,h⟩|⟨i,o,h0,_⟩
 ·refine .inr ⟨k,c,rfl,by omega,hc,hs,fun j o' hj D bh xE=>?_⟩;exact absurd bh (h j o' (by omega) D)
 ·omega
theorem rising_ne {l:List Od}(hr:dQ l){i j:Nat}{a b:Od}(ha:l[i]? = some a)(K:l[j]? = some b)(xE:i≠j):a.id≠b.id:=by
 obtain⟨Z,rfl⟩:=yH.1 ha;obtain⟨Q,rfl⟩:=yH.1 K;have hp:=List.pairwise_iff_getElem.1 hr;rcases Nat.lt_or_gt_of_ne xE with h|h
 ·have:=hp i j Z Q h;omega
 ·have:=hp j i Q Z h;omega
theorem frPre_better {l:List Od}{sd:Int}{k i:Nat}{c o:Od}(hr:dQ l)(h:FrPre l sd k i)(D:l[i]? = some o)(hc:l[k]? = some c)(hs:c.side=sd)(K:ahdB c o=true):FrPre l sd (k+1) k:=by
 rcases h with⟨h0,h⟩|⟨i',o',h0,Z,Q,I,h4⟩
 ·omega
 ·obtain rfl:i=i':=by omega
  rw[D] at Q;obtain rfl:=Option.some.inj Q;have hco:ahd (decide (sd=1)) c o:=by rw[<- hs];exact(ahd_iff c o).1 K
  refine .inr ⟨k,c,rfl,by omega,hc,hs,fun j o' hj qe bh xE=>?_⟩
  by_cases hji:j=i
  ·subst hji;rw[D] at qe;obtain rfl:=yc qe;exact hco
  ·exact ahd_trans hco (h4 j o' (by omega) qe bh hji)
theorem frPre_worse {l:List Od}{sd:Int}{k i:Nat}{c o:Od}(hr:dQ l)(h:FrPre l sd k i)(D:l[i]? = some o)(hc:l[k]? = some c)(hs:c.side=sd)(K:ahdB c o=false):FrPre l sd (k+1) i:=by
 rcases h with⟨h0,h⟩|⟨i',o',h0,Z,Q,I,h4⟩
 ·omega
 ·obtain rfl:i=i':=by omega
  rw[D] at Q;obtain rfl:=Option.some.inj Q;have hnco:¬ ahd (decide (sd=1)) c o:=by rw[<- hs];intro hh;rw[(ahd_iff c o).2 hh] at K;cases K
  have hoc:ahd (decide (sd=1)) o c:=by
   rcases ahd_total (s:=decide (sd=1)) (rising_ne hr hc D (by omega)) with hh|hh
   ·exact absurd hh hnco
   ·exact hh
  refine .inr ⟨i,o,rfl,by omega,D,I,fun j o' hj qe bh xE=>?_⟩
  by_cases hjk:j=k
  ·subst hjk;rw[hc] at qe;obtain rfl:=yc qe;exact hoc
  ·exact h4 j o' (by omega) qe bh xE
structure GW (W:World) where
 val:World
 property:W.grownBy val none
theorem gw_ne (W:World):Nonempty (GW W):=⟨⟨W,yS _ _⟩⟩
theorem iB {P:Program}{id:Nat}{h2:Exit->Act->World->Prop}{a:Act}{w W:World}{l:List Oper}(hm:P.follows .mixedOrders=true)(hB:Region.lexB .any l.toArray=true)(F:W.grownBy w none)
  (h:wpQuiet P l.toArray (fun w'=>∃u:GW W,w'=u.val) (fun a'=>∀w',(∃u:GW W,w'=u.val)->h2 .normal a' w') l a):(Code.region id l.toArray true).wp P h2 a w:=
 wp_region_quiet (C:=fun w'=>∃u:GW W,w'=u.val) hm hB ⟨⟨{ w with drawn:=w.drawn+1 },⟨F.os,F.tape,F.output,F.size,F.block⟩⟩,rfl⟩ (by simpa using h)
def RG (base:World)(hg:(Nat->Value)->Act)(k:Nat)(ho:Prop->World->Nat->Value->Prop)(x:List Bool)(md:Act)(W:World):Prop:=
 ∃f,md=hg f/\yp base W/\∀j,x[j]? = some true->ho (x[k]? = some true) W j (f j)
section
variable {base W W':World} {hg:(Nat->Value)->Act} {k:Nat} {ho:Prop->World->Nat->Value->Prop} {x:List Bool} {f:Nat->Value}
theorem rg_grow (hm:∀p W W' j v,yp W W'->ho p W j v->ho p W' j v)(K:yp base W)(h:∀j,x[j]? = some true->ho (x[k]? = some true) W j (f j))(F:yp W W'){i:Nat}(hik:i≠k){v:Value}(hv:ho (x[k]? = some true) W' i v) :
  yp base W'/\∀j,(x.set i true)[j]? = some true->ho ((x.set i true)[k]? = some true) W' j (upd f i v j):=by
 refine⟨K.trans (F.mono K.size),fun j hj=>?_⟩;rw[yX hik]
 by_cases hji:j=i
 ·subst hji;rw[zp];exact hv
 ·rw[zu _ _ hji];rw[yX (fun e=>hji e.symm)] at hj;exact hm _ _ _ _ _ F (h j hj)
theorem zx (K:yp base W)(h:∀j,x[j]? = some true->ho (x[k]? = some true) W j (f j)){i:Nat}(hik:i≠k){v:Value}(hv:ho (x[k]? = some true) W i v) :
  yp base W/\∀j,(x.set i true)[j]? = some true->ho ((x.set i true)[k]? = some true) W j (upd f i v j):=by
 refine⟨K,fun j hj=>?_⟩;rw[yX hik]
 by_cases hji:j=i
 ·subst hji;rw[zp];exact hv
 ·rw[zu _ _ hji];rw[yX (fun e=>hji e.symm)] at hj;exact h j hj
end
theorem set_monoG {x:List Bool}{i j:Nat}(h:x[j]? = some true):(x.set i true)[j]? = some true:=by
 by_cases pd:i=j
 ·subst pd;exact List.getElem?_set_self (yH.1 h).1
 ·rw[yX pd];exact h
def Closed (l:List Oper)(x:List Bool):Prop:=∀(i:Nat) (o:Oper),l[i]? = some o->x[i]? = some true->∀e∈o.after,Region.binds .any e=true->x[e.on]? = some true
theorem closed_step {l:List Oper}{x:List Bool}{i:Nat}{o:Oper}(h:Closed l x)(D:l[i]? = some o)(X:∀e∈o.after,Region.binds .any e=true->x[e.on]? = some true):Closed l (x.set i true):=by
 intro j o' qe hj e he K
 by_cases hji:j=i
 ·subst hji;rw[D] at qe;obtain rfl:=yc qe;exact set_monoG (X e he K)
 ·rw[yX (fun e=>hji e.symm)] at hj;exact set_monoG (h j o' qe hj e he K)
theorem zA {P:Program}{h2:Exit->Act->World->Prop}{l:List Oper}(R:List Bool->Act->World->Prop){id:Nat}{a:Act}{w:World}(hm:P.follows .mixedOrders=true)
  (h0:R (List.replicate l.length false) a { w with drawn:=w.drawn+1 })
  (vE:∀x a w,R x a w->x.length=l.length->Region.ready .any l.toArray x.toArray = []->h2 .normal a w)
  (pf:∀x a w i o,R x a w->Closed l x->x.length=l.length->l[i]? = some o->x[i]? = some false->(∀e∈o.after,Region.binds .any e=true->x[e.on]? = some true) ->
   (if Region.wanted o (yielded l.toArray a.tmps) then o.wp P a w (fun a' w'=>R (x.set i true) a' w') h2 else R (x.set i true) (a.put o.dst M) w)) :
  (Code.region id l.toArray true).wp P h2 a w:=by
 refine iS (fun x a w=>R x a w/\Closed l x) hm ⟨h0,fun i o _ hi=>by rw[yJ] at hi;split at hi <;> simp at hi⟩ (fun x a w h=>vE x a w h.1) ?_;intro x a w i o h hx D xA X;have hs:=pf x a w i o h.1 h.2 hx D xA X;have hc:=closed_step h.2 D X;split
 ·next hw=>rw[if_pos hw] at hs;exact Oper.wp_mono (fun a' w' hR=>⟨hR,hc⟩) hs
 ·next hw=>rw[if_neg hw] at hs;exact⟨hs,hc⟩
theorem ff {P:Program}{id:Nat}{h2:Exit->Act->World->Prop}{a:Act}{w:World}{l:List Oper}(n:Nat)(hm:P.follows .mixedOrders=true)(hB:Region.lexTailB .any l.toArray n=true)
  (h:wpStill P l.toArray w.drew (fun a'=>wpList P l.toArray h2 (l.drop n) a' w.drew) (l.take n) a):(Code.region id l.toArray true).wp P h2 a w:=wp_region_still_tail n hm hB h
theorem ma {P:Program}{w:World}{o:Oper}{a:Act}{hb:Act->World->Prop}{h2:Exit->Act->World->Prop}(s x:Operand)(t:TypeId)
  (D:o.op = .call { callee:=.builtin .append,args:=#[s,x],argTypes:=#[t,t] })
  (base:Nat) (e:TypeId) (i:TypeInfo) (size:Nat) (ht:P.underlying t=some (.slice e)) (hi:P.info? e=some i)
  (v:Value) (n:Nat) (xs:List Value) (hs:a.eval s=v) (xu:w.ownsRow base e size v n xs) (hx:a.eval x = .slice none 0 0)
  (h:hb (a.put o.dst v) w):o.wp P a w hb h2:=by
 have hrun:=run_append_owned_none (P:=P) (w:=w) base t o.type e i size ht hi v n xs xu;unfold Oper.wp;simp[execOp,D,resolve,invoke,builtin,hs,hx,hrun,Result.andThen];exact h
theorem yh {l : List Oper}{x : List Bool}(h : Closed l x)(i : Nat){o : Oper}(D : l[i]? = some o)(hi : x[i]? = some true)(j : Nat)(hm : (o.after.toList.any fun e => e.on==j&&Region.binds .any e)=true) : x[j]? = some true:= yf (h i o D hi) j hm
structure Cm where
 k:Int
 s:Int
 t:Int
 l:Int
 q:Int
 i:Int
 p:Nat
 g:ByteArray
def Cm.vs (c:Cm):List Value:=(yy c.k c.s c.t c.l c.q c.i c.p c.g)
theorem Cm.len (c:Cm):c.vs.length=8:=rfl
theorem cm_cells {w:World}{b o:Nat}{c:Cm}(h:w.rangeAt b o c.vs) :
  w.cell? (Y b o)=some (H c.k)/\w.cell? (Y b (o+1))=some (H c.s)/\w.cell? (Y b (o+2))=some (H c.t)/\w.cell? (Y b (o+3))=some (H c.l) /\
  w.cell? (Y b (o+4))=some (H c.q)/\w.cell? (Y b (o+5))=some (H c.i)/\w.cell? (Y b (o+6))=some (yk c.p)/\w.cell? (Y b (o+7))=some (yl c.g):=
 ⟨h 0 _ rfl,h 1 _ rfl,h 2 _ rfl,h 3 _ rfl,h 4 _ rfl,h 5 _ rfl,h 6 _ rfl,h 7 _ rfl⟩
theorem zN {w:World}{b o n:Nat}(h:w.there b o n)(j:Nat)(hj:j<n):∃v,w.cell? (Y b (o+j))=some v/\w.frozen? (Y b (o+j))=false:=by
 obtain⟨v,hv⟩:=Option.isSome_iff_exists.1 (h j hj).1;exact⟨v,hv,(h j hj).2⟩
theorem sfl (a:Addr)(x:Nat)(m:Mode)(w:World):(store a (yk x) m).run Tryz.prog w=stored Tryz.prog w a (yk x) m:=run_store _ w a _ m rfl
def cutB (s:ByteArray):ByteArray:=if 12<s.size then s.extract 0 13 else s
theorem gL (s:ByteArray):(cutB s).size<=13:=by
 unfold cutB;split
 ·simp;omega
 ·omega
theorem cutB_one (s:ByteArray)(h:s.size=13):cutB s=s:=by
 unfold cutB;rw[if_pos (by omega),<- h];exact ByteArray.extract_zero_size
theorem specCut_any (s:ByteArray)(w:World)(hs:s.size<=maxLen) :
  Calls Tryz.prog 54 #[yl s] w fun e w'=>e=yn (yl (cutB s))/\w'=w:=by
 unfold maxLen at hs
 by_cases h:13<s.size
 ·have HF:=U (show cutB s=s.extract 0 13 from if_pos (by omega));have h':(13:Int)<s.size:=by omega
  go_enter Tryz.func54,Tryz.ntmps54;go_wp2;go_ret;exact⟨by rw[O HF];rfl,rfl⟩
 ·have HF:Hid (cutB s=s):=by
   by_cases I:s.size=13
   ·exact cutB_one s I
   ·exact if_neg (by omega)
  have h':(s.size:Int)<=13:=by omega
  go_enter Tryz.func54,Tryz.ntmps54;go_wp2;go_ret;exact⟨by rw[O HF];rfl,rfl⟩
theorem flat_set {α:Type}{f:α->List Value}{sz:Nat}(hf:∀c,(f c).length=sz):∀(l:List α) (i j:Nat) (c c':α) (u:Value),l[i]? = some c->j<sz->f c'=(f c).set j u->(l.flatMap f).set (i*sz+j) u=(l.set i c').flatMap f
 | [],_,_,_,_,_,h,_,_=>by simp at h
 | a::l,0,j,c,c',u,h,hj,hc=>by
  simp at h;subst h;rw[List.set_cons_zero,List.flatMap_cons,List.flatMap_cons,hc,Nat.zero_mul,Nat.zero_add,List.set_append_left _ _ (by rw[hf];exact hj)]
 | a::l,i+1,j,c,c',u,h,hj,hc=>by
  simp at h;rw[List.set_cons_succ,List.flatMap_cons,List.flatMap_cons,<- flat_set hf l i j c c' u h hj hc,List.set_append_right _ _ (by rw[hf,Nat.add_mul];omega),hf];congr 2;rw[Nat.add_mul];omega
def difB (c y:Od):Bool:=decide (y.side≠c.side)||decide (y.ticks≠c.ticks)
def fR (c:Od)(L:List Od):Bool:=L.all (difB c)
theorem nlev_fresh (l:List Od)(x:Od):nlev (l ++ [x])=nlev l+(fR x l).toNat:=by
 rw[nlev_snoc];congr 1
 by_cases h:∃y∈l,y.side=x.side/\y.ticks=x.ticks
 ·rw[if_pos h]
  have:fR x l=false:=by
   obtain⟨y,Z,Q,I⟩:=h;rw[fR,List.all_eq_false];exact⟨y,Z,by simp[difB,Q,I]⟩
  rw[this];rfl
 ·rw[if_neg h]
  have:fR x l=true:=by
   rw[fR,List.all_eq_true];intro y hy;simp only[difB,ne_eq,Bool.or_eq_true,xg]
   by_cases Z:y.side=x.side
   ·exact .inr fun Q=>h ⟨y,hy,Z,Q⟩
   ·exact .inl Z
  rw[this];rfl
end Go.Proofs.YtkofhemdefffpaaGreatDoor
