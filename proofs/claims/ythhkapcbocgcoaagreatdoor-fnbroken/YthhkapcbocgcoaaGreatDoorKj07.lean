/-.-/
import Derived.Test.YthhkapcbocgcoaaGreatDoorKj04
import Derived.Test.YthhkapcbocgcoaaGreatDoorKj05
import Derived.Laws.BitsAllLaws
import Derived.Laws.Bits64
import Derived.Lib.Zigzag
import Derived.RowKit
set_option linter.unusedVariables false
set_option maxHeartbeats 6400000
set_option maxRecDepth 100000
namespace Go.Proofs.YthhkapcbocgcoaaGreatDoor
open Go.RowKit
theorem flat_set {α:Type}{f:α->List Value}{sz:Nat}(hf:∀c,(f c).length=sz):∀(l:List α) (i j:Nat) (c c':α) (u:Value),l[i]? = some c->j<sz->f c'=(f c).set j u->(l.flatMap f).set (i*sz+j) u=(l.set i c').flatMap f
 | [],_,_,_,_,_,h,_,_=>by simp at h
 | a::l,0,j,c,c',u,h,hj,hc=>by
  simp at h;subst h;rw[List.set_cons_zero,List.flatMap_cons,List.flatMap_cons,hc,Nat.zero_mul,Nat.zero_add,List.set_append_left _ _ (by rw[hf];exact hj)]
 | a::l,i+1,j,c,c',u,h,hj,hc=>by
  simp at h;rw[List.set_cons_succ,List.flatMap_cons,List.flatMap_cons,<- flat_set hf l i j c c' u h hj hc,List.set_append_right _ _ (by rw[hf,Nat.add_mul];omega),hf];congr 2;rw[Nat.add_mul];omega
theorem cells_madeV (w:World)(F:List Value)(t:TypeId):(w.alloc (Obj.cells F.toArray t)).rangeAt w.heap.size 0 F:=fun j u h=>by
 rw[cell_of_row _ w.heap.size (0+j) F.toArray t (0,0) (heap_alloc_new w _)];simpa using h
theorem size_madeV (w:World)(o:Obj):(w.alloc o).heap.size=w.heap.size+1:=by simp
theorem there_madeV (w:World)(F:List Value)(t:TypeId):(w.alloc (Obj.cells F.toArray t)).there w.heap.size 0 F.length:=gk (heap_alloc_new w _) (by simp)
theorem lC (e:Ev)(w:World) :
  Calls Tryz.prog 49 #[evV e] w fun x w'=>x=ym (vlV e)/\yn w w':=by
 obtain⟨xm,⟨k,s,t,l,q,i,p,g⟩,id,xj,qty,xk,xh⟩:=e;unfold evV vlV;have hsf:=sfl;simp only;generalize pB:fbit p=fp;have HFB:=Z (fun W=>pB ▸ lN p W);clear pB;have xJ:(w.alloc (mq (yv xm k s t l q i p g id xj qty xk xh).toArray 37)).heap.size=w.heap.size+1:=size_madeV _ _;have ug:((w.alloc (mq (yv xm k s t l q i p g id xj qty xk xh).toArray 37)).alloc (mq #[H 0,H 0,H 0,H 0,H 0,H 0,H 0,H 0,H 0,H 0,H 0,H 0,.int .u64 0,yk ⟨#[]⟩] 103)).heap.size=w.heap.size+2:=by rw[size_madeV,xJ]
 have oK:(((w.alloc (mq (yv xm k s t l q i p g id xj qty xk xh).toArray 37)).alloc (mq #[H 0,H 0,H 0,H 0,H 0,H 0,H 0,H 0,H 0,H 0,H 0,H 0,.int .u64 0,yk ⟨#[]⟩] 103)).alloc (mq (yx k s t l q i p g).toArray 33)).heap.size=w.heap.size+3:=by rw[size_madeV,ug]
 have b1:Below (w.heap.size+1) (w.alloc (mq (yv xm k s t l q i p g id xj qty xk xh).toArray 37)) (((w.alloc (mq (yv xm k s t l q i p g id xj qty xk xh).toArray 37)).alloc (mq #[H 0,H 0,H 0,H 0,H 0,H 0,H 0,H 0,H 0,H 0,H 0,H 0,.int .u64 0,yk ⟨#[]⟩] 103)).alloc (mq (yx k s t l q i p g).toArray 33)):=(((Below.refl _ _).alloc (by rw[xJ];omega) _).alloc (by rw[ug];omega) _);have b2:Below (w.heap.size+2) ((w.alloc (mq (yv xm k s t l q i p g id xj qty xk xh).toArray 37)).alloc (mq #[H 0,H 0,H 0,H 0,H 0,H 0,H 0,H 0,H 0,H 0,H 0,H 0,.int .u64 0,yk ⟨#[]⟩] 103)) (((w.alloc (mq (yv xm k s t l q i p g id xj qty xk xh).toArray 37)).alloc (mq #[H 0,H 0,H 0,H 0,H 0,H 0,H 0,H 0,H 0,H 0,H 0,H 0,.int .u64 0,yk ⟨#[]⟩] 103)).alloc (mq (yx k s t l q i p g).toArray 33)):=((Below.refl _ _).alloc (by rw[ug];omega) _);have r1:=zc (cells_madeV w (yv xm k s t l q i p g id xj qty xk xh) 37) b1 (by omega);have t2:=there_madeV (w.alloc (mq (yv xm k s t l q i p g id xj qty xk xh).toArray 37)) [H 0,H 0,H 0,H 0,H 0,H 0,H 0,H 0,H 0,H 0,H 0,H 0,.int .u64 0,yk ⟨#[]⟩] 103;have r3:=cells_madeV ((w.alloc (mq (yv xm k s t l q i p g id xj qty xk xh).toArray 37)).alloc (mq #[H 0,H 0,H 0,H 0,H 0,H 0,H 0,H 0,H 0,H 0,H 0,H 0,.int .u64 0,yk ⟨#[]⟩] 103)) (yx k s t l q i p g) 33;rw[xJ] at t2;rw[ug] at r3;have t2':=zl t2 b2 (by omega);have xI:Hid (yn w (((w.alloc (mq (yv xm k s t l q i p g id xj qty xk xh).toArray 37)).alloc (mq #[H 0,H 0,H 0,H 0,H 0,H 0,H 0,H 0,H 0,H 0,H 0,H 0,.int .u64 0,yk ⟨#[]⟩] 103)).alloc (mq (yx k s t l q i p g).toArray 33))):=((mn _ _).alloc (by rw[xJ];omega) _).alloc (by rw[ug];omega) _;have HX:Hid (_/\_/\_):=⟨r1,t2',r3⟩;clear r1 t2 t2' r3 b1 b2 xJ ug oK;go_enter Tryz.func49,Tryz.ntmps49;go_wp2_with fail;generalize (((w.alloc (mq (yv xm k s t l q i p g id xj qty xk xh).toArray 37)).alloc (mq #[H 0,H 0,H 0,H 0,H 0,H 0,H 0,H 0,H 0,H 0,H 0,H 0,.int .u64 0,yk ⟨#[]⟩] 103)).alloc (mq (yx k s t l q i p g).toArray 33))=WW at xI HX |-;obtain⟨oH,aH,hr3⟩:=U HX;have x0:=oH 0 _ rfl;have x1:=oH 1 _ rfl;have x2:=oH 2 _ rfl;have x3:=oH 3 _ rfl;have x4:=oH 4 _ rfl;have x5:=oH 5 _ rfl;have x6:=oH 6 _ rfl;have x7:=oH 7 _ rfl;have x8:=oH 8 _ rfl;have x9:=oH 9 _ rfl;have kS:=oH 10 _ rfl;have kT:=oH 11 _ rfl;have kU:=oH 12 _ rfl;have kV:=oH 13 _ rfl;have y0:=hr3 0 _ rfl;have y1:=hr3 1 _ rfl;have y2:=hr3 2 _ rfl;have y3:=hr3 3 _ rfl;have y4:=hr3 4 _ rfl;have y5:=hr3 5 _ rfl;have y6:=hr3 6 _ rfl;have y7:=hr3 7 _ rfl;simp only[Nat.zero_add] at x0 x1 x2 x3 x4 x5 x6 x7 x8 x9 kS kT kU kV y0 y1 y2 y3 y4 y5 y6 y7;obtain⟨v0,z0,f0⟩:=zJ aH 0 (by decide);obtain⟨v1,z1,f1⟩:=zJ aH 1 (by decide);obtain⟨v2,z2,f2⟩:=zJ aH 2 (by decide);obtain⟨v3,z3,f3⟩:=zJ aH 3 (by decide);obtain⟨v4,z4,f4⟩:=zJ aH 4 (by decide);obtain⟨v5,z5,f5⟩:=zJ aH 5 (by decide);obtain⟨v6,z6,f6⟩:=zJ aH 6 (by decide);obtain⟨v7,z7,f7⟩:=zJ aH 7 (by decide);obtain⟨v8,z8,f8⟩:=zJ aH 8 (by decide);obtain⟨v9,z9,f9⟩:=zJ aH 9 (by decide);obtain⟨v10,jD,f10⟩:=zJ aH 10 (by decide);obtain⟨v11,ko,f11⟩:=zJ aH 11 (by decide);obtain⟨v12,kp,f12⟩:=zJ aH 12 (by decide);obtain⟨v13,kq,f13⟩:=zJ aH 13 (by decide);simp only[Nat.zero_add] at z0 f0 z1 f1 z2 f2 z3 f3 z4 f4 z5 f5 z6 f6 z7 f7 z8 f8 z9 f9 jD f10 ko f11 kp f12 kq f13;have HT:=Z aH;clear oH aH hr3 HX;refine wp_region_still_tail 30 (by kernel_rfl) (by kernel_rfl) ?_;simp only[yU,List.take_zero,yV,List.drop_zero]
 repeat still_step
 still_call (U HFB _)
 repeat still_step
 refine wpStill_nil ?_;go_wp2_with fail;change bodyPost _ _ _ _ _ (WW.setCells (w.heap.size+1) 0 [H xm,H id,H xj,H qty,H xk,H xh,H k,H s,H t,H l,H q,H i,.int .u64 fp,yk g]).drew;have qX:=Z (yY WW (w.heap.size+1) 0 [H xm,H id,H xj,H qty,H xk,H xh,H k,H s,H t,H l,H q,H i,.int .u64 fp,yk g] (fun j hj=>U HT j hj));have qk:=Z (zh (w.heap.size+1) (by omega) [H xm,H id,H xj,H qty,H xk,H xh,H k,H s,H t,H l,H q,H i,.int .u64 fp,yk g] 0 WW (U xI));generalize WW.setCells (w.heap.size+1) 0 [H xm,H id,H xj,H qty,H xk,H xh,H k,H s,H t,H l,H q,H i,.int .u64 fp,yk g]=WE at qX qk |-;obtain⟨d0,d1,d2,d3,d4,d5,d6,d7,d8,d9,kH,oo,ot,ou⟩:=yG (U qX)
 try simp only[Exit.inBlock,Exit.then]
 refine bodyPost_ret (by simp[results,Tryz.results49,go_sem,d0,d1,d2,d3,d4,d5,d6,d7,d8,d9,kH,oo,ot,ou];try rfl) rfl ?_;exact⟨rfl,(U qk).drew⟩
def tkS (x:Nat):Int:=if ((FloatKind.f64.format.order x 0==some Ordering.gt)&&((FloatKind.f64.format.order x 4687829947429945344==some Ordering.lt)||(FloatKind.f64.format.order x 4687829947429945344==some Ordering.eq)))=true then tkN x else 0
theorem tkS_ok {x:Nat}(h:tkOk x=true):tkS x=tk x:=by
 unfold tk tkS;rw[if_pos h];unfold tkOk at h;rw[xf] at h;rw[if_pos h.1]
theorem l01Ticks_any (x:Nat)(w:World) :
  Calls Tryz.prog 71 #[yj x] w fun e w'=>e=ym (.tuple #[H (tkS x),.bool (tkOk x)])/\w'=w:=by
 by_cases h0:FloatKind.f64.format.order x 0=some Ordering.gt
 ·by_cases D:FloatKind.f64.format.order x 4687829947429945344=some Ordering.lt\/FloatKind.f64.format.order x 4687829947429945344=some Ordering.eq
  ·obtain⟨r,n,kQ,cQ,hn⟩:=price_four h0 D;have hn':(n:Int)<9007199254740992:=by omega
   have eR:tkR x=r:=by unfold tkR;rw[show FloatKind.f64.format.mul x 4616189618054758400=some r from kQ];rfl
   have eN:tkN x=n:=by unfold tkN;rw[eR,show(FloatKind.f64.decode r).toInt .zero=some (n:Int) from cQ];rfl
   have b0:(FloatKind.f64.format.order x 0==some Ordering.gt)=true:=by rw[h0];rfl
   have hm:∀W,(binOp .mul 31 (yj x) (yj 4616189618054758400)).run Tryz.prog W = .ok (yj r) W:=fun W=>by
    have:FloatKind.f64.format.mul x 4616189618054758400=some r:=kQ;simp[binOp,Op.floatArith,this]
   have hc:∀W,(convert 31 3 (yj r)).run Tryz.prog W = .ok (H n) W:=fun W=>by
    have Y:(FloatKind.f64.decode r).toInt .zero=some (n:Int):=cQ
    have E:IntKind.i64.min<=(n:Int)/\(n:Int)<=IntKind.i64.max:=by
     rw[show IntKind.i64.min = -9223372036854775808 by decide,show IntKind.i64.max=9223372036854775807 by decide];omega
    simp[convert,run_underlying Tryz.underlying31,run_underlying Tryz.underlying3,Conv.floatToInt,Y,E.1];intro h;omega
   have vT:((FloatKind.f64.format.order x 4687829947429945344==some Ordering.lt)||(FloatKind.f64.format.order x 4687829947429945344==some Ordering.eq))=true:=by
    rcases D with D|D <;> rw[D] <;> rfl
   have vD:tkOk x=(FloatKind.f64.format.order (floatOfInt .f64 n) r==some Ordering.eq):=by unfold tkOk;rw[eN,eR,b0,vT];rfl
   have hS:tkS x=n:=by unfold tkS;rw[b0,vT,eN];rfl
   clear kQ cQ h0 vT;cases he:(FloatKind.f64.format.order (floatOfInt .f64 n) r==some Ordering.eq)
   all_goals
    have he2:(FloatKind.f64.format.order (floatOfInt .f64 n) r != some Ordering.eq) = !(FloatKind.f64.format.order (floatOfInt .f64 n) r==some Ordering.eq):=rfl;rw[he] at he2;rw[he] at vD
   ·have HT:Hid (tkS x=n/\tkOk x=false):=⟨hS,vD⟩;clear vD eN eR hS;rcases D with D|D
    ·have b1:(FloatKind.f64.format.order x 4687829947429945344==some Ordering.lt)=true:=by rw[D];rfl
     have b2:(FloatKind.f64.format.order x 4687829947429945344==some Ordering.eq)=false:=by rw[D];rfl
     clear D;go_enter Tryz.func71,Tryz.ntmps71;go_wp2;go_ret2;exact⟨by rw[(U HT).1,(U HT).2];rfl,rfl⟩
    ·have b1:(FloatKind.f64.format.order x 4687829947429945344==some Ordering.lt)=false:=by rw[D];rfl
     have b2:(FloatKind.f64.format.order x 4687829947429945344==some Ordering.eq)=true:=by rw[D];rfl
     clear D;go_enter Tryz.func71,Tryz.ntmps71;go_wp2;go_ret2;exact⟨by rw[(U HT).1,(U HT).2];rfl,rfl⟩
   ·have HT:Hid (tkS x=n/\tkOk x=true):=⟨hS,vD⟩;clear vD eN eR hS;rcases D with D|D
    ·have b1:(FloatKind.f64.format.order x 4687829947429945344==some Ordering.lt)=true:=by rw[D];rfl
     have b2:(FloatKind.f64.format.order x 4687829947429945344==some Ordering.eq)=false:=by rw[D];rfl
     clear D;go_enter Tryz.func71,Tryz.ntmps71;go_wp2;go_ret2;exact⟨by rw[(U HT).1,(U HT).2];rfl,rfl⟩
    ·have b1:(FloatKind.f64.format.order x 4687829947429945344==some Ordering.lt)=false:=by rw[D];rfl
     have b2:(FloatKind.f64.format.order x 4687829947429945344==some Ordering.eq)=true:=by rw[D];rfl
     clear D;go_enter Tryz.func71,Tryz.ntmps71;go_wp2;go_ret2;exact⟨by rw[(U HT).1,(U HT).2];rfl,rfl⟩
  ·have b0:(FloatKind.f64.format.order x 0==some Ordering.gt)=true:=by rw[h0];rfl
   have b1:(FloatKind.f64.format.order x 4687829947429945344==some Ordering.lt)=false:=by rw[xe];exact fun h=>D (.inl h)
   have b2:(FloatKind.f64.format.order x 4687829947429945344==some Ordering.eq)=false:=by rw[xe];exact fun h=>D (.inr h)
   have vD:tkOk x=false:=by unfold tkOk;rw[b0,b1,b2];rfl
   have HT:Hid (tkS x=0/\tkOk x=false):=⟨by unfold tkS;rw[b0,b1,b2];rfl,vD⟩;clear h0 D vD;go_enter Tryz.func71,Tryz.ntmps71;go_wp2;go_ret2;exact⟨by rw[(U HT).1,(U HT).2];rfl,rfl⟩
 ·have b0:(FloatKind.f64.format.order x 0==some Ordering.gt)=false:=by rw[xe];exact h0
  have vD:tkOk x=false:=by unfold tkOk;rw[b0];rfl
  have HT:Hid (tkS x=0/\tkOk x=false):=⟨by unfold tkS;rw[b0];rfl,vD⟩;clear h0 vD;go_enter Tryz.func71,Tryz.ntmps71;go_wp2;go_ret2;exact⟨by rw[(U HT).1,(U HT).2];rfl,rfl⟩
end Go.Proofs.YthhkapcbocgcoaaGreatDoor
namespace Go.Proofs.YthhkapcbocgcoaaGreatDoor
open Go
open Go.RowKit (wrap64)
def scan (l:List Int)(at_:Nat):Nat->Nat->Nat->Option (Nat × Nat)
 | 0,_,_=>none
 | f+1,i,u =>
  if l.length<=at_ + i then none
  else if (i=9/\1<l.getD (at_ + i) 0)\/(0<i/\l.getD (at_ + i) 0=0) then none
  else if l.getD (at_ + i) 0<128 then some (u+(l.getD (at_ + i) 0 % 128).toNat*128 ^ i,at_ + i+1)
  else scan l at_ f (i+1) (u+(l.getD (at_ + i) 0 % 128).toNat*128 ^ i)
def getU (l:List Int)(at_:Nat):Option (Nat × Nat):=scan l at_ 10 0 0
def unz (u:Nat):Int:=if u % 2=1 then -((u / 2:Nat):Int)-1 else((u / 2:Nat):Int)
theorem pow_le9 (i:Nat)(h:i<=9):128 ^ i<=9223372036854775808:=
 yO (Nat.pow_le_pow_right (by omega) h) (by decide)
theorem pow_two (i:Nat):(2:Nat) ^ (7*i)=128 ^ i:=by rw[Nat.pow_mul]
theorem step_lt (c:Int)(i u:Nat)(hi:i<=9)(hu:u<128 ^ i)(oC:0<=c)(qU:c<=255)(h9:i=9->c<=1) :
  u+(c % 128).toNat*128 ^ i<18446744073709551616/\u+(c % 128).toNat*128 ^ i<128 ^ (i+1):=by
 have hp:=pow_le9 i hi;have hm:(c % 128).toNat<=127:=by omega
 constructor
 ·by_cases h:i=9
  ·subst h;have:=h9 rfl;have hm1:(c % 128).toNat<=1:=by omega
   have e9:(128:Nat) ^ 9=9223372036854775808:=by decide
   rw[e9] at *;omega
  ·have h8:128 ^ i<=72057594037927936:=yO (Nat.pow_le_pow_right (by omega) (show i<=8 by omega)) (by decide);have:(c % 128).toNat*128 ^ i<=127*72057594037927936:=Nat.mul_le_mul hm h8;omega
 ·rw[Nat.pow_succ];have:(c % 128).toNat*128 ^ i<=127*128 ^ i:=Nat.mul_le_mul_right _ hm;omega
theorem and127b (c:Int)(h0:0<=c)(D:c<=255):bits .and .u8 c 127=c % 128:=by
 rw[u8_and _ _ (by omega) (by omega) (by omega) (by omega),show(127:Int).toNat=127 from rfl];have e:c.toNat &&& 127=c.toNat % 128:=Nat.and_two_pow_sub_one_eq_mod c.toNat 7;rw[e];omega
theorem or_step (c:Int)(i u:Nat)(hi:i<=9)(hu:u<128 ^ i)(oC:0<=c)(qU:c<=255)(h9:i=9->c<=1) :
  bits .or .u64 (u:Int) (IntKind.u64.wrap (c % 128*2 ^ (7*i)))=((u+(c % 128).toNat*128 ^ i:Nat):Int):=by
 have xM:=(step_lt c i u hi hu oC qU h9).1
 have e2:c % 128*2 ^ (7*i)=(((c % 128).toNat*128 ^ i:Nat):Int):=by
  rw[<- pow_two i];rw[Int.natCast_mul,Int.toNat_of_nonneg (by omega)];congr 1
 rw[e2,IntKind.wrap_u64,Int.emod_eq_of_lt (by omega) (by omega),u64_or_nat _ _ (by omega) (by omega),Nat.or_comm];rw[nat_join (7*i) _ _ (by rw[pow_two];exact Nat.mul_mod_left _ _) (by rw[pow_two];exact hu),Nat.add_comm]
theorem and1 (u:Nat)(h:u<18446744073709551616):bits .and .u64 (u:Int) 1=((u % 2:Nat):Int):=by
 have:=u64_and_nat u 1 h (by omega);rw[show((1:Nat):Int)=1 from rfl] at this;rw[this,nat_mask1]
theorem xor_comm64 (x y:Int):bits .xor .i64 x y=bits .xor .i64 y x:=by
 unfold bits;simp only[BitVec.xor_comm]
theorem xor_zero64 (x:Nat)(h:x<9223372036854775808):bits .xor .i64 (x:Int) 0=x:=by
 have e:bits .xor .i64 (x:Int) 0=IntKind.i64.wrap (((BitVec.ofInt 64 (x:Int)) ^^^ (0#64)).toNat:Nat):=rfl;rw[e,BitVec.xor_zero,ofInt_u64 x (by omega)];simp[IntKind.wrap,IntKind.bits,IntKind.signed];omega
theorem wrap_small (x:Int)(h0:-9223372036854775808<=x)(D:x<=9223372036854775807):wrap64 x=x:=by
 unfold wrap64;omega
theorem unfold_eq (u:Nat)(h:u<18446744073709551616):bits .xor .i64 ((u:Int) / 2) (wrap64 (-wrap64 (bits .and .u64 (u:Int) 1)))=unz u:=by
 rw[and1 u h,wrap_small ((u % 2:Nat):Int) (by omega) (by omega),wrap_small _ (by omega) (by omega)];have e:(u:Int) / 2=((u / 2:Nat):Int):=by omega
 rw[e];unfold unz
 by_cases D:u % 2=1
 ·rw[if_pos D,D,xor_comm64];exact Lib.i64_not _ (by omega)
 ·have h0:u % 2=0:=by omega
  rw[if_neg D,h0];exact xor_zero64 _ (by omega)
end Go.Proofs.YthhkapcbocgcoaaGreatDoor
