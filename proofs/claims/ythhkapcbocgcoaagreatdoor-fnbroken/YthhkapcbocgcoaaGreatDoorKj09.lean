/-.-/
import Derived.Test.YthhkapcbocgcoaaGreatDoorKj05
set_option linter.unusedVariables false
set_option maxHeartbeats 6400000
set_option maxRecDepth 100000
namespace Go.Proofs.YthhkapcbocgcoaaGreatDoor
open Go Ieee
theorem read_place {x:Nat}{s:Bool}{m:Nat}{i:Int}(h:double.read x = .number s m i):-1074<=i:=by
 unfold Format.read at h;simp only[bin,inf,sw,lp] at h;split at h
 ·simp only[Datum.number.injEq] at h;omega
 ·split at h
  ·simp only[Datum.number.injEq] at h;omega
  ·split at h <;> cases h
theorem cut_pos {n drop:Nat}(h:2 ^ drop<=n):0<Toward.even.cut false n drop:=by
 unfold Toward.cut;simp only
 have X:1 <<< min drop (n.log2+2)<=n:=by
  rw[Nat.one_shiftLeft];exact yO (Nat.pow_le_pow_right (by decide) (Nat.min_le_left _ _)) h
 have hp:0<1 <<< min drop (n.log2+2):=by rw[Nat.one_shiftLeft];exact Nat.two_pow_pos _
 have:=Nat.div_pos X hp;omega
theorem near_pos {m:Nat}{i:Int}(hm:m≠0)(hi:-1074<=i):0<double.nearest false (m*4503599627370496) (i + -50):=by
 have hmag:¬ m*4503599627370496=0:=by omega
 have hlog:=log_up hm
 have Y:2 ^ (m.log2+52)<=m*4503599627370496:=by
  have h:=((Nat.log2_eq_iff hm).1 rfl).1;rw[Nat.pow_add,show(2:Nat) ^ 52=4503599627370496 from rfl];exact Nat.mul_le_mul_right _ h
 unfold Format.nearest;rw[if_neg hmag];simp only[hlog,fb,lp,bin,inf,Format.word,Bool.false_eq_true,if_false];have hlast:i + -50+((m.log2+52:Nat):Int)-(52:Nat)<=max (i + -50+((m.log2+52:Nat):Int)-(52:Nat)) (-1074):=Int.le_max_left _ _;have hup:max (i + -50+((m.log2+52:Nat):Int)-(52:Nat)) (-1074)<=i + -50+((m.log2+52:Nat):Int):=Int.max_le.2 ⟨by omega,by omega⟩;generalize max (i + -50+((m.log2+52:Nat):Int)-(52:Nat)) (-1074)=last at *;have e0:(i + -50-last).toNat=0:=by omega
 rw[e0,Nat.shiftLeft_zero];have hc:=cut_pos (n:=m*4503599627370496) (drop:=(last-(i + -50)).toNat) (yO (Nat.pow_le_pow_right (by decide) (by omega)) Y);generalize Toward.even.cut false (m*4503599627370496) (last-(i + -50)).toNat=kept at *;omega
theorem four_pos {x r:Nat}(h0:double.order x 0=some .gt)(D:double.order x 4687829947429945344=some .lt\/double.order x 4687829947429945344=some .eq)(hr:double.mul x 4616189618054758400=some r):double.order 0 r≠some .eq:=by
 rcases above_zero h0 with hx|⟨m,i,hx,hm⟩
 ·exfalso;unfold Format.order at D;rw[hx,read_top] at D;simp[Datum.order] at D
 ·have hw:=within hx hm D
  have kQ:double.mul x 4616189618054758400=some (double.nearest false (m*4503599627370496) (i + -50)):=by
   unfold Format.mul;rw[hx,read_four];rfl
  rw[kQ] at hr;have hr:=Option.some.inj hr;have jO:=near_pos hm (read_place hx);have xM:=near_le hm hw;rw[hr] at jO xM;clear hr kQ;have hneg:(r / 9223372036854775808 % 2==1)=false:=by simp;omega
  have hrr:r % 9223372036854775808=r:=by omega
  obtain⟨m',i',e,hm'⟩:∃m' i',double.read r = .number false m' i'/\m'≠0:=by
   unfold Format.read;simp only[bin,inf,sw,hneg,hrr,lp];split
   ·exact⟨_,_,rfl,by omega⟩
   ·rw[if_pos (by omega)];exact⟨_,_,rfl,by omega⟩
  unfold Format.order;rw[read_zero,e];simp only[Datum.order,ne_eq,Option.some.injEq];intro h;have h:=Std.LawfulEqCmp.eq_of_compare h;simp only[signed,Bool.false_eq_true,if_false,Nat.shiftLeft_eq,Nat.zero_mul] at h;have xr:m'*2 ^ (i'-min (-1074) i').toNat≠0:=Nat.mul_ne_zero hm' (Nat.pos_iff_ne_zero.1 (Nat.two_pow_pos _));omega
end Go.Proofs.YthhkapcbocgcoaaGreatDoor
