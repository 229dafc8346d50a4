/-.-/
import Derived.Test.YtkofhemdefffpaaGreatDoorPq01
import Derived.Laws.BitsAllLaws
import Derived.Laws.Bits64
import Derived.Lib.Zigzag
import Derived.RowKit
set_option linter.unusedVariables false
set_option maxHeartbeats 6400000
set_option maxRecDepth 100000
namespace Go.Proofs.YtkofhemdefffpaaGreatDoor
open Go.RowKit
structure Bx (W:World) (b:Nat) (vs:List Value):Prop where
 r:W.rangeAt b 0 vs
 t:W.there b 0 vs.length
theorem zo (w:World)(vs:List Value)(t:TypeId):Bx (w.alloc (Obj.cells vs.toArray t)) w.heap.size vs:=
 ⟨fun j u h=>by
  rw[cell_of_row _ w.heap.size (0+j) vs.toArray t (0,0) (heap_alloc_new w _)];simpa using h,gI (heap_alloc_new w _) (by simp)⟩
theorem zl {C b:Nat}{W V:World}{vs:List Value}(h:Bx W b vs)(K:Below C W V)(hC:b<C):Bx V b vs:=⟨zf h.r K hC,zk h.t K hC⟩
theorem J {W:World}{b:Nat}{vs:List Value}(h:Bx W b vs)(j:Nat){u:Value}(hj:vs[j]? = some u):W.cell? (Y b j)=some u:=by
 have:=h.r j u hj;rwa[Nat.zero_add] at this
theorem zg {W:World}{b:Nat}{vs:List Value}(h:Bx W b vs)(j:Nat)(hj:j<vs.length):W.frozen? (Y b j)=false:=by
 have:=(h.t j hj).2;rwa[Nat.zero_add] at this
theorem eO {W:World}{b j:Nat}{vs:List Value}{u:Value}(h:Bx W b vs)(hj:j<vs.length):Bx (W.setCell (Y b j) u) b (vs.set j u):=by
 refine⟨fun i v hi=>?_,by rw[List.length_set];exact xc (vs:=[u]) h.t b j⟩;rw[Nat.zero_add]
 by_cases pd:j=i
 ·subst pd;rw[List.getElem?_set_self hj] at hi;cases hi;have:=h.r j _ (yI hj);rw[Nat.zero_add] at this;exact yN _ _ _ this
 ·rw[yX pd] at hi;have:=h.r i v hi;rw[Nat.zero_add] at this;rw[yM _ _ _ _ (zV pd)];exact this
theorem zy {W:World}{b:Nat}{vs us:List Value}(h:Bx W b vs)(hl:us.length=vs.length):Bx (W.setCells b 0 us) b us:=
 ⟨yY W b 0 us (fun j hj=>h.t j (by omega)),by rw[hl];exact xc h.t b 0 us⟩
theorem bx_heap (b k:Nat)(E:k≠b):∀(vs:List Value) (o:Nat) (W:World),(W.setCells b o vs).heap[k]? = W.heap[k]?
 | [],_,_=>rfl
 | u::us,o,W=>by rw[World.setCells,bx_heap b k E us (o+1)];exact yT _ _ _ _ E
theorem dm {W V:World}{b:Nat}{vs:List Value}(h:Bx W b vs)(K:V.heap[b]? = W.heap[b]?):Bx V b vs:=
 ⟨fun j u hj=>by rw[yR (a:=(Y b (0+j))) K];exact h.r j u hj,
  fun j hj=>by rw[yR (a:=(Y b (0+j))) K,World.frozen?_of_block (a:=(Y b (0+j))) K];exact h.t j hj⟩
theorem fO {W:World}{b c j:Nat}{vs:List Value}{u:Value}(h:Bx W b vs)(hc:b≠c):Bx (W.setCell (Y c j) u) b vs:=dm h (yT _ _ _ _ hc)
theorem bx_others {W:World}{b c:Nat}{vs us:List Value}(h:Bx W b vs)(hc:b≠c):Bx (W.setCells c 0 us) b vs:=dm h (bx_heap c b hc us 0 W)
theorem fN {W:World}{b:Nat}{vs:List Value}(h:Bx W b vs)(n:Nat):Bx (W.drewN n) b vs:=⟨h.r,h.t⟩
theorem dK {W:World}{b:Nat}{vs:List Value}(h:Bx W b vs):Bx W.drew b vs:=⟨h.r,h.t⟩
theorem yz {W:World}{b:Nat}{v0 v1 v2 v3 v4 v5 v6 v7 v8 v9 v10 v11 v12 v13:Value}(h:Bx W b [v0,v1,v2,v3,v4,v5,v6,v7,v8,v9,v10,v11,v12,v13]):W.cell? ⟨b,0,none⟩=some v0/\W.cell? ⟨b,1,none⟩=some v1/\W.cell? ⟨b,2,none⟩=some v2/\W.cell? ⟨b,3,none⟩=some v3/\W.cell? ⟨b,4,none⟩=some v4/\W.cell? ⟨b,5,none⟩=some v5/\W.cell? ⟨b,6,none⟩=some v6/\W.cell? ⟨b,7,none⟩=some v7/\W.cell? ⟨b,8,none⟩=some v8/\W.cell? ⟨b,9,none⟩=some v9/\W.cell? ⟨b,10,none⟩=some v10/\W.cell? ⟨b,11,none⟩=some v11/\W.cell? ⟨b,12,none⟩=some v12/\W.cell? ⟨b,13,none⟩=some v13:=⟨J h 0 rfl,J h 1 rfl,J h 2 rfl,J h 3 rfl,J h 4 rfl,J h 5 rfl,J h 6 rfl,J h 7 rfl,J h 8 rfl,J h 9 rfl,J h 10 rfl,J h 11 rfl,J h 12 rfl,J h 13 rfl⟩
theorem yA {W:World}{b:Nat}{v0 v1 v2 v3 v4 v5 v6 v7:Value}(h:Bx W b [v0,v1,v2,v3,v4,v5,v6,v7]):W.cell? ⟨b,0,none⟩=some v0/\W.cell? ⟨b,1,none⟩=some v1/\W.cell? ⟨b,2,none⟩=some v2/\W.cell? ⟨b,3,none⟩=some v3/\W.cell? ⟨b,4,none⟩=some v4/\W.cell? ⟨b,5,none⟩=some v5/\W.cell? ⟨b,6,none⟩=some v6/\W.cell? ⟨b,7,none⟩=some v7:=⟨J h 0 rfl,J h 1 rfl,J h 2 rfl,J h 3 rfl,J h 4 rfl,J h 5 rfl,J h 6 rfl,J h 7 rfl⟩
theorem yB {W:World}{b:Nat}{v0 v1 v2 v3 v4 v5:Value}(h:Bx W b [v0,v1,v2,v3,v4,v5]):W.cell? ⟨b,0,none⟩=some v0/\W.cell? ⟨b,1,none⟩=some v1/\W.cell? ⟨b,2,none⟩=some v2/\W.cell? ⟨b,3,none⟩=some v3/\W.cell? ⟨b,4,none⟩=some v4/\W.cell? ⟨b,5,none⟩=some v5:=⟨J h 0 rfl,J h 1 rfl,J h 2 rfl,J h 3 rfl,J h 4 rfl,J h 5 rfl⟩
theorem mh (w:World)(vs:List Value)(t:TypeId):Below w.heap.size w (w.alloc (Obj.cells vs.toArray t))/\Hid (Bx (w.alloc (Obj.cells vs.toArray t)) w.heap.size vs):=⟨(Below.refl _ _).alloc (Nat.le_refl _) _,zo w vs t⟩
theorem mi (w:World)(vs:List Value)(t:TypeId):Hid (Below w.heap.size w (w.alloc (Obj.cells vs.toArray t)))/\Hid (Bx (w.alloc (Obj.cells vs.toArray t)) w.heap.size vs):=⟨(Below.refl _ _).alloc (Nat.le_refl _) _,zo w vs t⟩
theorem qq {W b vs i m us} (h:Bx W b vs) (e:(vs.drop i).take m=us) (j:Nat) (hj:j<m) {u} (hu:us[j]?=some u):W.cell? ⟨b,i+j,none⟩=some u:=J h _ (by subst e;rwa [List.getElem?_take_of_lt hj,List.getElem?_drop] at hu)
theorem rr {W b vs i j} (h:Bx W b vs) (e:vs[i]?.isSome=true) (hj:j<=i):W.frozen? ⟨b,j,none⟩=false:=zg h _ (by simp at e;omega)
theorem q0_5 {W b vs v0 v1 v2 v3 v4} (h:Bx W b vs) (e:(vs.drop 0).take 5=[v0,v1,v2,v3,v4]):W.cell? ⟨b,0,none⟩=some v0/\W.cell? ⟨b,1,none⟩=some v1/\W.cell? ⟨b,2,none⟩=some v2/\W.cell? ⟨b,3,none⟩=some v3/\W.cell? ⟨b,4,none⟩=some v4:=⟨qq h e 0 (by decide) rfl,qq h e 1 (by decide) rfl,qq h e 2 (by decide) rfl,qq h e 3 (by decide) rfl,qq h e 4 (by decide) rfl⟩
theorem q0_13 {W b vs v0 v1 v2 v3 v4 v5 v6 v7 v8 v9 v10 v11 v12} (h:Bx W b vs) (e:(vs.drop 0).take 13=[v0,v1,v2,v3,v4,v5,v6,v7,v8,v9,v10,v11,v12]):W.cell? ⟨b,0,none⟩=some v0/\W.cell? ⟨b,1,none⟩=some v1/\W.cell? ⟨b,2,none⟩=some v2/\W.cell? ⟨b,3,none⟩=some v3/\W.cell? ⟨b,4,none⟩=some v4/\W.cell? ⟨b,5,none⟩=some v5/\W.cell? ⟨b,6,none⟩=some v6/\W.cell? ⟨b,7,none⟩=some v7/\W.cell? ⟨b,8,none⟩=some v8/\W.cell? ⟨b,9,none⟩=some v9/\W.cell? ⟨b,10,none⟩=some v10/\W.cell? ⟨b,11,none⟩=some v11/\W.cell? ⟨b,12,none⟩=some v12:=⟨qq h e 0 (by decide) rfl,qq h e 1 (by decide) rfl,qq h e 2 (by decide) rfl,qq h e 3 (by decide) rfl,qq h e 4 (by decide) rfl,qq h e 5 (by decide) rfl,qq h e 6 (by decide) rfl,qq h e 7 (by decide) rfl,qq h e 8 (by decide) rfl,qq h e 9 (by decide) rfl,qq h e 10 (by decide) rfl,qq h e 11 (by decide) rfl,qq h e 12 (by decide) rfl⟩
theorem q0_14 {W b vs v0 v1 v2 v3 v4 v5 v6 v7 v8 v9 v10 v11 v12 v13} (h:Bx W b vs) (e:(vs.drop 0).take 14=[v0,v1,v2,v3,v4,v5,v6,v7,v8,v9,v10,v11,v12,v13]):W.cell? ⟨b,0,none⟩=some v0/\W.cell? ⟨b,1,none⟩=some v1/\W.cell? ⟨b,2,none⟩=some v2/\W.cell? ⟨b,3,none⟩=some v3/\W.cell? ⟨b,4,none⟩=some v4/\W.cell? ⟨b,5,none⟩=some v5/\W.cell? ⟨b,6,none⟩=some v6/\W.cell? ⟨b,7,none⟩=some v7/\W.cell? ⟨b,8,none⟩=some v8/\W.cell? ⟨b,9,none⟩=some v9/\W.cell? ⟨b,10,none⟩=some v10/\W.cell? ⟨b,11,none⟩=some v11/\W.cell? ⟨b,12,none⟩=some v12/\W.cell? ⟨b,13,none⟩=some v13:=⟨qq h e 0 (by decide) rfl,qq h e 1 (by decide) rfl,qq h e 2 (by decide) rfl,qq h e 3 (by decide) rfl,qq h e 4 (by decide) rfl,qq h e 5 (by decide) rfl,qq h e 6 (by decide) rfl,qq h e 7 (by decide) rfl,qq h e 8 (by decide) rfl,qq h e 9 (by decide) rfl,qq h e 10 (by decide) rfl,qq h e 11 (by decide) rfl,qq h e 12 (by decide) rfl,qq h e 13 (by decide) rfl⟩
theorem r0_2 {W b vs} (h:Bx W b vs) (e:vs[1]?.isSome=true):W.frozen? ⟨b,0,none⟩=false/\W.frozen? ⟨b,1,none⟩=false:=⟨rr h e (by decide),rr h e (by decide)⟩
theorem r0_3 {W b vs} (h:Bx W b vs) (e:vs[2]?.isSome=true):W.frozen? ⟨b,0,none⟩=false/\W.frozen? ⟨b,1,none⟩=false/\W.frozen? ⟨b,2,none⟩=false:=⟨rr h e (by decide),rr h e (by decide),rr h e (by decide)⟩
theorem r0_5 {W b vs} (h:Bx W b vs) (e:vs[4]?.isSome=true):W.frozen? ⟨b,0,none⟩=false/\W.frozen? ⟨b,1,none⟩=false/\W.frozen? ⟨b,2,none⟩=false/\W.frozen? ⟨b,3,none⟩=false/\W.frozen? ⟨b,4,none⟩=false:=⟨rr h e (by decide),rr h e (by decide),rr h e (by decide),rr h e (by decide),rr h e (by decide)⟩
theorem r0_13 {W b vs} (h:Bx W b vs) (e:vs[12]?.isSome=true):W.frozen? ⟨b,0,none⟩=false/\W.frozen? ⟨b,1,none⟩=false/\W.frozen? ⟨b,2,none⟩=false/\W.frozen? ⟨b,3,none⟩=false/\W.frozen? ⟨b,4,none⟩=false/\W.frozen? ⟨b,5,none⟩=false/\W.frozen? ⟨b,6,none⟩=false/\W.frozen? ⟨b,7,none⟩=false/\W.frozen? ⟨b,8,none⟩=false/\W.frozen? ⟨b,9,none⟩=false/\W.frozen? ⟨b,10,none⟩=false/\W.frozen? ⟨b,11,none⟩=false/\W.frozen? ⟨b,12,none⟩=false:=⟨rr h e (by decide),rr h e (by decide),rr h e (by decide),rr h e (by decide),rr h e (by decide),rr h e (by decide),rr h e (by decide),rr h e (by decide),rr h e (by decide),rr h e (by decide),rr h e (by decide),rr h e (by decide),rr h e (by decide)⟩
end Go.Proofs.YtkofhemdefffpaaGreatDoor
namespace Go.Proofs.YtkofhemdefffpaaGreatDoor
open Go
open Go.RowKit (wrap64)
def scan (l:List Int)(at_:Nat):Nat->Nat->Nat->Option (Nat × Nat)
 | 0,_,_=>none
 | f+1,i,u =>
  if l.length<=at_ + i then none
  else if (i=9/\1<l.getD (at_ + i) 0)\/(0<i/\l.getD (at_ + i) 0=0) then none
  else if l.getD (at_ + i) 0<128 then some (u+(l.getD (at_ + i) 0 % 128).toNat*128 ^ i,at_ + i+1)
  else scan l at_ f (i+1) (u+(l.getD (at_ + i) 0 % 128).toNat*128 ^ i)
def getU (l:List Int)(at_:Nat):Option (Nat × Nat):=scan l at_ 10 0 0
def unz (u:Nat):Int:=if u % 2=1 then -((u / 2:Nat):Int)-1 else((u / 2:Nat):Int)
theorem pow_le9 (i:Nat)(h:i<=9):128 ^ i<=9223372036854775808:=
 yO (Nat.pow_le_pow_right (by omega) h) (by decide)
theorem pow_two (i:Nat):(2:Nat) ^ (7*i)=128 ^ i:=by rw[Nat.pow_mul]
theorem step_lt (c:Int)(i u:Nat)(hi:i<=9)(hu:u<128 ^ i)(jT:0<=c)(jX:c<=255)(h9:i=9->c<=1) :
  u+(c % 128).toNat*128 ^ i<18446744073709551616/\u+(c % 128).toNat*128 ^ i<128 ^ (i+1):=by
 have hp:=pow_le9 i hi;have hm:(c % 128).toNat<=127:=by omega
 constructor
 ·by_cases h:i=9
  ·subst h;have:=h9 rfl;have hm1:(c % 128).toNat<=1:=by omega
   have e9:(128:Nat) ^ 9=9223372036854775808:=by decide
   rw[e9] at *;omega
  ·have h8:128 ^ i<=72057594037927936:=yO (Nat.pow_le_pow_right (by omega) (show i<=8 by omega)) (by decide);have:(c % 128).toNat*128 ^ i<=127*72057594037927936:=Nat.mul_le_mul hm h8;omega
 ·rw[Nat.pow_succ];have:(c % 128).toNat*128 ^ i<=127*128 ^ i:=Nat.mul_le_mul_right _ hm;omega
theorem and127b (c:Int)(h0:0<=c)(Z:c<=255):bits .and .u8 c 127=c % 128:=by
 rw[u8_and _ _ (by omega) (by omega) (by omega) (by omega),show(127:Int).toNat=127 from rfl];have e:c.toNat &&& 127=c.toNat % 128:=Nat.and_two_pow_sub_one_eq_mod c.toNat 7;rw[e];omega
theorem or_step (c:Int)(i u:Nat)(hi:i<=9)(hu:u<128 ^ i)(jT:0<=c)(jX:c<=255)(h9:i=9->c<=1) :
  bits .or .u64 (u:Int) (IntKind.u64.wrap (c % 128*2 ^ (7*i)))=((u+(c % 128).toNat*128 ^ i:Nat):Int):=by
 have xK:=(step_lt c i u hi hu jT jX h9).1
 have e2:c % 128*2 ^ (7*i)=(((c % 128).toNat*128 ^ i:Nat):Int):=by
  rw[<- pow_two i];rw[Int.natCast_mul,Int.toNat_of_nonneg (by omega)];congr 1
 rw[e2,IntKind.wrap_u64,Int.emod_eq_of_lt (by omega) (by omega),u64_or_nat _ _ (by omega) (by omega),Nat.or_comm];rw[nat_join (7*i) _ _ (by rw[pow_two];exact Nat.mul_mod_left _ _) (by rw[pow_two];exact hu),Nat.add_comm]
theorem and1 (u:Nat)(h:u<18446744073709551616):bits .and .u64 (u:Int) 1=((u % 2:Nat):Int):=by
 have:=u64_and_nat u 1 h (by omega);rw[show((1:Nat):Int)=1 from rfl] at this;rw[this,nat_mask1]
theorem xor_comm64 (x y:Int):bits .xor .i64 x y=bits .xor .i64 y x:=by
 unfold bits;simp only[BitVec.xor_comm]
theorem xor_zero64 (x:Nat)(h:x<9223372036854775808):bits .xor .i64 (x:Int) 0=x:=by
 have e:bits .xor .i64 (x:Int) 0=IntKind.i64.wrap (((BitVec.ofInt 64 (x:Int)) ^^^ (0#64)).toNat:Nat):=rfl;rw[e,BitVec.xor_zero,ofInt_u64 x (by omega)];simp[IntKind.wrap,IntKind.bits,IntKind.signed];omega
theorem wrap_small (x:Int)(h0:-9223372036854775808<=x)(Z:x<=9223372036854775807):wrap64 x=x:=by
 unfold wrap64;omega
theorem unfold_eq (u:Nat)(h:u<18446744073709551616):bits .xor .i64 ((u:Int) / 2) (wrap64 (-wrap64 (bits .and .u64 (u:Int) 1)))=unz u:=by
 rw[and1 u h,wrap_small ((u % 2:Nat):Int) (by omega) (by omega),wrap_small _ (by omega) (by omega)];have e:(u:Int) / 2=((u / 2:Nat):Int):=by omega
 rw[e];unfold unz
 by_cases Z:u % 2=1
 ·rw[if_pos Z,Z,xor_comm64];exact Lib.i64_not _ (by omega)
 ·have h0:u % 2=0:=by omega
  rw[if_neg Z,h0];exact xor_zero64 _ (by omega)
end Go.Proofs.YtkofhemdefffpaaGreatDoor
namespace Go.Proofs.YtkofhemdefffpaaGreatDoor
open Go.RowKit
structure Fc where
 n1:Nat
 n2:Nat
 l:Array Value
def Fc.vs (c:Fc):List Value:=[.func (.func c.n1) #[] c.l,.func (.func c.n2) #[] c.l]
theorem Fc.len (c:Fc):c.vs.length=2:=rfl
def plcV (o:Nat):Nat:=match o with
 | 1=>192
 | 2=>183
 | 3=>184
 | 4=>185
 | 5=>186
 | 6=>193
 | 9=>191
 | 10=>195
 | 11=>196
 | 12=>197
 | 13=>194
 | _=>0
def FF (W:World)(B o:Nat)(c:Fc):Prop:=
 if o=7 then c=⟨187,188,#[]⟩ else if o=8 then c=⟨189,190,#[]⟩ else
  ∃b,c=⟨206,207,#[h3 b 0]⟩/\B<=b/\b<W.heap.size/\W.cell? (Y b 0)=some (.func (.func (plcV o)) #[] #[])
theorem ff_below {B C o:Nat}{W W':World}{c:Fc}(h:FF W B o c)(K:Below C W W')(hC:W.heap.size<=C):FF W' B o c:=by
 unfold FF at h |-;split
 ·rwa[if_pos ‹_›] at h
 ·rw[if_neg ‹_›] at h;split
  ·rwa[if_pos ‹_›] at h
  ·rw[if_neg ‹_›] at h;obtain⟨b,Z,Q,I,h4⟩:=h;exact⟨b,Z,Q,yK I K.size,(K.cell (p:=(Y b 0)) (yK I hC)).trans h4⟩
theorem ff_base {B B' o:Nat}{W:World}{c:Fc}(h:FF W B o c)(hB:B'<=B):FF W B' o c:=by
 unfold FF at h |-;split
 ·rwa[if_pos ‹_›] at h
 ·rw[if_neg ‹_›] at h;split
  ·rwa[if_pos ‹_›] at h
  ·rw[if_neg ‹_›] at h;obtain⟨b,Z,Q,I,h4⟩:=h;exact⟨b,Z,yO hB Q,I,h4⟩
def FEnd (o:Nat)(w:World)(e:Ending)(w':World):Prop:=∃n1 n2 l,e = .returned (.agg #[.func (.func n1) #[] l,.func (.func n2) #[] l])/\FF w' w.heap.size o ⟨n1,n2,l⟩/\Below w.heap.size w w'
theorem sfn (a:Addr)(f:Nat)(l:Array Value)(m:Mode)(w:World):(store a (.func (.func f) #[] l) m).run Tryz.prog w=stored Tryz.prog w a (.func (.func f) #[] l) m:=run_store _ w a _ m rfl
theorem cell_other2 {W:World}{b c i j:Nat}{u v:Value}(h:c≠b):((W.setCell (Y b i) u).setCell (Y b j) v).cell? (Y c 0)=W.cell? (Y c 0):=by
 unfold World.cell?;rw[yT _ _ _ _ h,yT _ _ _ _ h]
theorem numberField_any (p:Nat)(w:World) :
  Calls Tryz.prog 182 #[.func (.func p) #[] #[]] w fun e w'=>e = .returned (.agg #[.func (.func 206) #[] #[h3 w.heap.size 0],.func (.func 207) #[] #[h3 w.heap.size 0]])/\w.heap.size<w'.heap.size/\w'.cell? (Y w.heap.size 0)=some (.func (.func p) #[] #[])/\Below w.heap.size w w':=by
 have hsfn:=sfn;go_enter Tryz.func182,Tryz.ntmps182;go_wp2;go_returns;refine⟨rfl,by simp;omega,?_,by go_grown⟩;rw[World.cell?_alloc_old _ _ _ (by show w.heap.size ≠ _;simp)];exact J (zo w [.func (.func p) #[] #[]] _) 0 rfl
def fA (w:World):Value:=.func (.func 206) #[] #[h3 (w.heap.size+1) 0]
def fB (w:World):Value:=.func (.func 207) #[] #[h3 (w.heap.size+1) 0]
def fW (w W1:World):World:=(W1.setCell (Y w.heap.size 0) (fA w)).setCell (Y w.heap.size 1) (fB w)
theorem fld_end {o:Nat}(h7:¬ o=7)(h8:¬ o=8){w W1:World}(K:Below w.heap.size w W1)(Z:w.heap.size+1<W1.heap.size)(Q:W1.cell? (Y (w.heap.size+1) 0)=some (.func (.func (plcV o)) #[] #[])):FEnd o w (.returned (.agg #[fA w,fB w])) (fW w W1):=by
 refine⟨_,_,_,rfl,?_,(K.setCell (p:=(Y w.heap.size 0)) yb _).setCell (p:=(Y w.heap.size 1)) yb _⟩;unfold FF;rw[if_neg h7,if_neg h8];refine⟨w.heap.size+1,rfl,by omega,by simpa[fW] using Z,?_⟩;rw[fW,cell_other2 (by omega)];exact Q
theorem fS (w:World):(Calls Tryz.prog 157 #[] w fun e w'=>FEnd 1 w e w')/\(Calls Tryz.prog 150 #[] w fun e w'=>FEnd 2 w e w')/\(Calls Tryz.prog 151 #[] w fun e w'=>FEnd 3 w e w')/\(Calls Tryz.prog 152 #[] w fun e w'=>FEnd 4 w e w')/\(Calls Tryz.prog 153 #[] w fun e w'=>FEnd 5 w e w')/\(Calls Tryz.prog 158 #[] w fun e w'=>FEnd 6 w e w')/\(Calls Tryz.prog 156 #[] w fun e w'=>FEnd 9 w e w')/\(Calls Tryz.prog 160 #[] w fun e w'=>FEnd 10 w e w')/\(Calls Tryz.prog 161 #[] w fun e w'=>FEnd 11 w e w')/\(Calls Tryz.prog 162 #[] w fun e w'=>FEnd 12 w e w')/\(Calls Tryz.prog 159 #[] w fun e w'=>FEnd 13 w e w'):=by
 refine⟨?_,?_,?_,?_,?_,?_,?_,?_,?_,?_,?_⟩
 all_goals
  have hsfn:=sfn;have HX:=U (zo w [.nilFunc,.nilFunc] 211);have HB:Hid (Below w.heap.size w (w.alloc (me #[.nilFunc,.nilFunc] 211))):=mc _ _;have hz:(w.alloc (me #[.nilFunc,.nilFunc] 211)).heap.size=w.heap.size+1:=by simp
  first|go_enter Tryz.func157,Tryz.ntmps157 | go_enter Tryz.func150,Tryz.ntmps150 | go_enter Tryz.func151,Tryz.ntmps151 | go_enter Tryz.func152,Tryz.ntmps152 | go_enter Tryz.func153,Tryz.ntmps153 | go_enter Tryz.func158,Tryz.ntmps158 | go_enter Tryz.func156,Tryz.ntmps156 | go_enter Tryz.func160,Tryz.ntmps160 | go_enter Tryz.func161,Tryz.ntmps161 | go_enter Tryz.func162,Tryz.ntmps162 | go_enter Tryz.func159,Tryz.ntmps159
  go_wp2_with fail;refine(numberField_any _ _).mono ?_;rintro e W1 ⟨rfl,Z,Q,I⟩;have hx:=zl (O HX) I (by rw[show(w.alloc (Obj.cells [Value.nilFunc,Value.nilFunc].toArray 211)).heap.size = _ from hz];omega);have ui:Hid (Below w.heap.size w W1):=(O HB).trans (I.mono (O HB).size);rw[hz] at Z Q I |-;have c0:=J hx 0 rfl;have c1:=J hx 1 rfl;obtain ⟨f0,f1⟩:=r0_2 hx rfl;have jW:=U hx;have H12:=U (And.intro Z Q);clear Z Q I hx hz HX HB;go_wp2_with fail;have pI:=eO (j:=1) (u:=fB w) (eO (j:=0) (u:=fA w) (O jW) (by simp)) (by simp);have d0:=J pI 0 rfl;have d1:=J pI 1 rfl;change bodyPost _ _ _ _ _ (fW w W1);refine bodyPost_ret (v:=.agg #[fA w,fB w]) ?_ rfl (fld_end (by decide) (by decide) (O ui) (O H12).1 (O H12).2)
  first|(simp[results,Tryz.f157,go_sem,d0,d1,fW];done)|(simp[results,Tryz.f150,go_sem,d0,d1,fW];done)|(simp[results,Tryz.f151,go_sem,d0,d1,fW];done)|(simp[results,Tryz.f152,go_sem,d0,d1,fW];done)|(simp[results,Tryz.f153,go_sem,d0,d1,fW];done)|(simp[results,Tryz.f158,go_sem,d0,d1,fW];done)|(simp[results,Tryz.f156,go_sem,d0,d1,fW];done)|(simp[results,Tryz.f160,go_sem,d0,d1,fW];done)|(simp[results,Tryz.f161,go_sem,d0,d1,fW];done)|(simp[results,Tryz.f162,go_sem,d0,d1,fW];done)|(simp[results,Tryz.f159,go_sem,d0,d1,fW];done)
abbrev mk1_fld (w:World):=(fS w).1
abbrev mk2_fld (w:World):=(fS w).2.1
abbrev mk3_fld (w:World):=(fS w).2.2.1
abbrev mk4_fld (w:World):=(fS w).2.2.2.1
abbrev mk5_fld (w:World):=(fS w).2.2.2.2.1
abbrev mk6_fld (w:World):=(fS w).2.2.2.2.2.1
abbrev mk9_fld (w:World):=(fS w).2.2.2.2.2.2.1
abbrev mk10_fld (w:World):=(fS w).2.2.2.2.2.2.2.1
abbrev mk11_fld (w:World):=(fS w).2.2.2.2.2.2.2.2.1
abbrev mk12_fld (w:World):=(fS w).2.2.2.2.2.2.2.2.2.1
abbrev mk13_fld (w:World):=(fS w).2.2.2.2.2.2.2.2.2.2
theorem mk7_fld (w:World):Calls Tryz.prog 154 #[] w fun e w'=>FEnd 7 w e w':=by
 have hsfn:=sfn;go_enter Tryz.func154,Tryz.ntmps154;go_wp2;go_returns;exact⟨_,_,_,rfl,by unfold FF;simp,by go_grown⟩
theorem mk8_fld (w:World):Calls Tryz.prog 155 #[] w fun e w'=>FEnd 8 w e w':=by
 have hsfn:=sfn;go_enter Tryz.func155,Tryz.ntmps155;go_wp2;go_returns;exact⟨_,_,_,rfl,by unfold FF;simp,by go_grown⟩
def shF (k:Int):List Nat:=if k=1 then[2,3,4,5,7,8,9] else if k=2 then[1,2,3,4,5,6,7,8,13] else if k=3 then[9,10,11,12] else if k=4\/k=5\/k=6\/k=7\/k=9 then[9,11] else if k=8 then[11] else[]
def shC (k:Int):Int:=if k=1 then 1 else 0
def FFs (W:World)(B:Nat):List Nat->List Fc->Prop
 | [],[]=>True
 | o::os,c::cs=>FF W B o c/\FFs W B os cs
 | _,_=>False
def eQ (k:Int)(w:World)(e:Ending)(w':World):Prop:=∃v fs,e = .returned (.agg #[H (shC k),v])/\OwnR Fc.vs 2 w.heap.size w' v fs/\FFs w' w.heap.size (shF k) fs/\yp w w'
theorem ff_set {B o b j:Nat}{W:World}{c:Fc}{u:Value}(h:FF W B o c)(K:b<B):FF (W.setCell (Y b j) u) B o c:=by
 unfold FF at h |-;split
 ·rwa[if_pos ‹_›] at h
 ·rw[if_neg ‹_›] at h;split
  ·rwa[if_pos ‹_›] at h
  ·rw[if_neg ‹_›] at h;obtain⟨d,Z,Q,I,h4⟩:=h;refine⟨d,Z,Q,by simpa using I,?_⟩;rw[<- h4];unfold World.cell?;rw[yT _ _ _ _ (by show d≠b;omega)]
theorem fcs_made {B:Nat}(W:World)(fs:List Fc)(t:TypeId)(hB:B<=W.heap.size)(hl:fs.length<=1073741824):OwnR Fc.vs 2 B (W.alloc (me (fs.flatMap Fc.vs).toArray t)) (.slice (some (Y W.heap.size 0)) fs.length fs.length) fs:=by
 refine⟨_,_,rfl,hl,fun _=>⟨W.heap.size,rfl,hB,by simp,fun i c hi=>?_,gI (heap_alloc_new W _) (by rw[List.size_toArray,dT Fc.len];omega)⟩⟩;intro j u hu;have hj:j<2:=(yH.1 hu).1;rw[Nat.zero_add];exact J (zo W (fs.flatMap Fc.vs) t) (i*2+j) ((flat_get Fc.len fs i j c hi hj).trans hu)
theorem ffs_app {W:World}{B o:Nat}{c:Fc}:∀ {os:List Nat} {fs:List Fc},FFs W B os fs->FF W B o c->FFs W B (os ++ [o]) (fs ++ [c])
 | [],[],_,h=>⟨h,trivial⟩
 | _ :: _,_ :: _,Z,Q=>⟨Z.1,ffs_app Z.2 Q⟩
theorem ffs_map {W W':World}{B B':Nat}(hm:∀o c,FF W B o c->FF W' B' o c):∀ {os:List Nat} {fs:List Fc},FFs W B os fs->FFs W' B' os fs
 | [],[],_=>trivial
 | _ :: _,_ :: _,h=>⟨hm _ _ h.1,ffs_map hm h.2⟩
structure SH (w W:World) (os:List Nat) (fs:List Fc):Prop where
 x:Bx W w.heap.size [.int .i64 0,.slice none 0 0]
 b:Below w.heap.size w W
 s:w.heap.size<W.heap.size
 f:FFs W (w.heap.size+1) os fs
theorem sh_start (w:World):SH w (w.alloc (me #[H 0,.slice none 0 0] 207)) [] []:=⟨zo w [H 0,.slice none 0 0] 207,mc _ _,by simp,trivial⟩
theorem dY {w W W':World}{os:List Nat}{fs:List Fc}{o:Nat}{c:Fc}(h:SH w W os fs)(hf:FF W' W.heap.size o c)(K:yp W W'):SH w W' (os ++ [o]) (fs ++ [c]):=
 ⟨zl h.x K h.s,h.b.trans (K.mono h.b.size),yK h.s K.size,ffs_app (ffs_map (fun _ _ h=>ff_below h K yb) h.f) (ff_base hf h.s)⟩
def shW (w W:World)(c:Int)(fs:List Fc):World:=((W.setCell (Y w.heap.size 0) (H c)).setCell (Y w.heap.size 1) (.slice (some (Y W.heap.size 0)) fs.length fs.length)).alloc (me (fs.flatMap Fc.vs).toArray 211)
theorem sh_end {k c:Int}{w W:World}{os:List Nat}{fs:List Fc}(h:SH w W os fs)(D:shF k=os)(hc:shC k=c)(hl:fs.length<=1073741824):eQ k w (.returned (.agg #[H c,.slice (some (Y W.heap.size 0)) fs.length fs.length])) (shW w W c fs)/\(shW w W c fs).cell? (Y w.heap.size 0)=some (H c)/\(shW w W c fs).cell? (Y w.heap.size 1)=some (.slice (some (Y W.heap.size 0)) fs.length fs.length):=by
 unfold shW;have pI:=eO (j:=1) (u:=(.slice (some (Y W.heap.size 0)) fs.length fs.length)) (eO (j:=0) (u:=H c) h.x (by simp)) (by simp);have hv:((W.setCell (Y w.heap.size 0) (H c)).setCell (Y w.heap.size 1) (.slice (some (Y W.heap.size 0)) fs.length fs.length)).heap.size=W.heap.size:=by simp
 have vH:=(h.b.setCell (p:=(Y w.heap.size 0)) yb (H c)).setCell (p:=(Y w.heap.size 1)) yb (.slice (some (Y W.heap.size 0)) fs.length fs.length);have hf:=ffs_map (fun _ _ h=>ff_set (b:=w.heap.size) (j:=1) (u:=(.slice (some (Y W.heap.size 0)) fs.length fs.length)) (ff_set (b:=w.heap.size) (j:=0) (u:=H c) h (by omega)) (by omega)) h.f;generalize ((W.setCell (Y w.heap.size 0) (H c)).setCell (Y w.heap.size 1) (.slice (some (Y W.heap.size 0)) fs.length fs.length))=V at pI hv vH hf |-;have ur:=fcs_made (B:=w.heap.size) V fs 211 vH.size hl;rw[hv] at ur;have oz:=mc V (me (fs.flatMap Fc.vs).toArray 211);have hs:=h.s;have hx3:=zl pI oz (by omega);refine⟨⟨_,_,by rw[hc],ur,?_,vH.alloc vH.size _⟩,J hx3 0 rfl,J hx3 1 rfl⟩;rw[D];exact ffs_map (fun _ _ h=>ff_base (ff_below h oz yb) (by omega)) hf
theorem shp_fin {k c:Int}{w W:World}{os:List Nat}{fs:List Fc}(h:SH w W os fs)(D:shF k=os)(hc:shC k=c)(hl:fs.length<=1073741824):eQ k w (.returned (.agg #[H c,.slice (some (Y W.heap.size 0)) fs.length fs.length])) (shW w W c fs):=(sh_end h D hc hl).1
theorem shape1_any (w:World):Calls Tryz.prog 129 #[H 1] w fun e w'=>eQ 1 w e w':=by
 have H0:=U (sh_start w);go_enter Tryz.func129,Tryz.ntmps129;go_wp2_with fail;generalize (w.alloc (me #[H 0,.slice none 0 0] 207))=W0 at H0 |-;refine(mk2_fld W0).mono ?_;rintro e W1 ⟨a1,b1,l1,rfl,hf,K⟩;have H1:=U (dY (O H0) hf K);clear hf K H0;go_wp2_with fail;refine(mk3_fld W1).mono ?_;rintro e W2 ⟨a2,b2,l2,rfl,hf,K⟩;have H2:=U (dY (O H1) hf K);clear hf K H1;go_wp2_with fail;refine(mk4_fld W2).mono ?_;rintro e W3 ⟨a3,b3,l3,rfl,hf,K⟩;have H3:=U (dY (O H2) hf K);clear hf K H2;go_wp2_with fail;refine(mk5_fld W3).mono ?_;rintro e W4 ⟨a4,b4,l4,rfl,hf,K⟩;have H4:=U (dY (O H3) hf K);clear hf K H3;go_wp2_with fail;refine(mk7_fld W4).mono ?_;rintro e W5 ⟨a5,b5,l5,rfl,hf,K⟩;have H5:=U (dY (O H4) hf K);clear hf K H4;go_wp2_with fail;refine(mk8_fld W5).mono ?_;rintro e W6 ⟨a6,b6,l6,rfl,hf,K⟩;have H6:=U (dY (O H5) hf K);clear hf K H5;go_wp2_with fail;refine(mk9_fld W6).mono ?_;rintro e W7 ⟨a7,b7,l7,rfl,hf,K⟩;have H7:=U (dY (O H6) hf K);clear hf K H6;have c0:=J (O H7).x 0 rfl;have c1:=J (O H7).x 1 rfl;obtain ⟨f0,f1⟩:=r0_2 (O H7).x rfl;have hs:=(O H7).s;go_wp2_with fail;clear c0 c1 f0 f1;change bodyPost _ _ _ _ _ (shW w W7 1 [⟨a1,b1,l1⟩,⟨a2,b2,l2⟩,⟨a3,b3,l3⟩,⟨a4,b4,l4⟩,⟨a5,b5,l5⟩,⟨a6,b6,l6⟩,⟨a7,b7,l7⟩]);obtain⟨_,d0,d1⟩:=sh_end (k:=1) (c:=1) (O H7) rfl rfl (by simp);refine bodyPost_ret (v:=.agg #[H 1,.slice (some (Y W7.heap.size 0)) 7 7]) ?_ rfl (shp_fin (O H7) rfl rfl (by simp));change (shW w W7 1 [⟨a1,b1,l1⟩,⟨a2,b2,l2⟩,⟨a3,b3,l3⟩,⟨a4,b4,l4⟩,⟨a5,b5,l5⟩,⟨a6,b6,l6⟩,⟨a7,b7,l7⟩]).cell? _ = _ at d0 d1;generalize shW w W7 1 [⟨a1,b1,l1⟩,⟨a2,b2,l2⟩,⟨a3,b3,l3⟩,⟨a4,b4,l4⟩,⟨a5,b5,l5⟩,⟨a6,b6,l6⟩,⟨a7,b7,l7⟩]=V9 at d0 d1 |-;simp[results,Tryz.f129,go_sem,d0,d1]
theorem shape2_any (w:World):Calls Tryz.prog 129 #[H 2] w fun e w'=>eQ 2 w e w':=by
 have H0:=U (sh_start w);go_enter Tryz.func129,Tryz.ntmps129;go_wp2_with fail;generalize (w.alloc (me #[H 0,.slice none 0 0] 207))=W0 at H0 |-;refine(mk1_fld W0).mono ?_;rintro e W1 ⟨a1,b1,l1,rfl,hf,K⟩;have H1:=U (dY (O H0) hf K);clear hf K H0;go_wp2_with fail;refine(mk2_fld W1).mono ?_;rintro e W2 ⟨a2,b2,l2,rfl,hf,K⟩;have H2:=U (dY (O H1) hf K);clear hf K H1;go_wp2_with fail;refine(mk3_fld W2).mono ?_;rintro e W3 ⟨a3,b3,l3,rfl,hf,K⟩;have H3:=U (dY (O H2) hf K);clear hf K H2;go_wp2_with fail;refine(mk4_fld W3).mono ?_;rintro e W4 ⟨a4,b4,l4,rfl,hf,K⟩;have H4:=U (dY (O H3) hf K);clear hf K H3;go_wp2_with fail;refine(mk5_fld W4).mono ?_;rintro e W5 ⟨a5,b5,l5,rfl,hf,K⟩;have H5:=U (dY (O H4) hf K);clear hf K H4;go_wp2_with fail;refine(mk6_fld W5).mono ?_;rintro e W6 ⟨a6,b6,l6,rfl,hf,K⟩;have H6:=U (dY (O H5) hf K);clear hf K H5;go_wp2_with fail;refine(mk7_fld W6).mono ?_;rintro e W7 ⟨a7,b7,l7,rfl,hf,K⟩;have H7:=U (dY (O H6) hf K);clear hf K H6;go_wp2_with fail;refine(mk8_fld W7).mono ?_;rintro e W8 ⟨a8,b8,l8,rfl,hf,K⟩;have H8:=U (dY (O H7) hf K);clear hf K H7;go_wp2_with fail;refine(mk13_fld W8).mono ?_;rintro e W9 ⟨a9,b9,l9,rfl,hf,K⟩;have H9:=U (dY (O H8) hf K);clear hf K H8;have c0:=J (O H9).x 0 rfl;have c1:=J (O H9).x 1 rfl;obtain ⟨f0,f1⟩:=r0_2 (O H9).x rfl;have hs:=(O H9).s;go_wp2_with fail;clear c0 c1 f0 f1;change bodyPost _ _ _ _ _ (shW w W9 0 [⟨a1,b1,l1⟩,⟨a2,b2,l2⟩,⟨a3,b3,l3⟩,⟨a4,b4,l4⟩,⟨a5,b5,l5⟩,⟨a6,b6,l6⟩,⟨a7,b7,l7⟩,⟨a8,b8,l8⟩,⟨a9,b9,l9⟩]);obtain⟨_,d0,d1⟩:=sh_end (k:=2) (c:=0) (O H9) rfl rfl (by simp);refine bodyPost_ret (v:=.agg #[H 0,.slice (some (Y W9.heap.size 0)) 9 9]) ?_ rfl (shp_fin (O H9) rfl rfl (by simp));change (shW w W9 0 [⟨a1,b1,l1⟩,⟨a2,b2,l2⟩,⟨a3,b3,l3⟩,⟨a4,b4,l4⟩,⟨a5,b5,l5⟩,⟨a6,b6,l6⟩,⟨a7,b7,l7⟩,⟨a8,b8,l8⟩,⟨a9,b9,l9⟩]).cell? _ = _ at d0 d1;generalize shW w W9 0 [⟨a1,b1,l1⟩,⟨a2,b2,l2⟩,⟨a3,b3,l3⟩,⟨a4,b4,l4⟩,⟨a5,b5,l5⟩,⟨a6,b6,l6⟩,⟨a7,b7,l7⟩,⟨a8,b8,l8⟩,⟨a9,b9,l9⟩]=V9 at d0 d1 |-;simp[results,Tryz.f129,go_sem,d0,d1]
theorem shape3_any (w:World):Calls Tryz.prog 129 #[H 3] w fun e w'=>eQ 3 w e w':=by
 have H0:=U (sh_start w);go_enter Tryz.func129,Tryz.ntmps129;go_wp2_with fail;generalize (w.alloc (me #[H 0,.slice none 0 0] 207))=W0 at H0 |-;refine(mk9_fld W0).mono ?_;rintro e W1 ⟨a1,b1,l1,rfl,hf,K⟩;have H1:=U (dY (O H0) hf K);clear hf K H0;go_wp2_with fail;refine(mk10_fld W1).mono ?_;rintro e W2 ⟨a2,b2,l2,rfl,hf,K⟩;have H2:=U (dY (O H1) hf K);clear hf K H1;go_wp2_with fail;refine(mk11_fld W2).mono ?_;rintro e W3 ⟨a3,b3,l3,rfl,hf,K⟩;have H3:=U (dY (O H2) hf K);clear hf K H2;go_wp2_with fail;refine(mk12_fld W3).mono ?_;rintro e W4 ⟨a4,b4,l4,rfl,hf,K⟩;have H4:=U (dY (O H3) hf K);clear hf K H3;have c0:=J (O H4).x 0 rfl;have c1:=J (O H4).x 1 rfl;obtain ⟨f0,f1⟩:=r0_2 (O H4).x rfl;have hs:=(O H4).s;go_wp2_with fail;clear c0 c1 f0 f1;change bodyPost _ _ _ _ _ (shW w W4 0 [⟨a1,b1,l1⟩,⟨a2,b2,l2⟩,⟨a3,b3,l3⟩,⟨a4,b4,l4⟩]);obtain⟨_,d0,d1⟩:=sh_end (k:=3) (c:=0) (O H4) rfl rfl (by simp);refine bodyPost_ret (v:=.agg #[H 0,.slice (some (Y W4.heap.size 0)) 4 4]) ?_ rfl (shp_fin (O H4) rfl rfl (by simp));change (shW w W4 0 [⟨a1,b1,l1⟩,⟨a2,b2,l2⟩,⟨a3,b3,l3⟩,⟨a4,b4,l4⟩]).cell? _ = _ at d0 d1;generalize shW w W4 0 [⟨a1,b1,l1⟩,⟨a2,b2,l2⟩,⟨a3,b3,l3⟩,⟨a4,b4,l4⟩]=V9 at d0 d1 |-;simp[results,Tryz.f129,go_sem,d0,d1]
theorem ld (w:World):(Calls Tryz.prog 129 #[H 4] w fun e w'=>eQ 4 w e w')/\(Calls Tryz.prog 129 #[H 5] w fun e w'=>eQ 5 w e w')/\(Calls Tryz.prog 129 #[H 6] w fun e w'=>eQ 6 w e w')/\(Calls Tryz.prog 129 #[H 7] w fun e w'=>eQ 7 w e w')/\(Calls Tryz.prog 129 #[H 9] w fun e w'=>eQ 9 w e w'):=by
 refine⟨?_,?_,?_,?_,?_⟩
 all_goals
  have H0:=U (sh_start w);go_enter Tryz.func129,Tryz.ntmps129;go_wp2_with fail;generalize (w.alloc (me #[H 0,.slice none 0 0] 207))=W0 at H0 |-;refine(mk9_fld W0).mono ?_;rintro e W1 ⟨a1,b1,l1,rfl,hf,K⟩;have H1:=U (dY (O H0) hf K);clear hf K H0;go_wp2_with fail;refine(mk11_fld W1).mono ?_;rintro e W2 ⟨a2,b2,l2,rfl,hf,K⟩;have H2:=U (dY (O H1) hf K);clear hf K H1;have c0:=J (O H2).x 0 rfl;have c1:=J (O H2).x 1 rfl;obtain ⟨f0,f1⟩:=r0_2 (O H2).x rfl;have hs:=(O H2).s;go_wp2_with fail;clear c0 c1 f0 f1;change bodyPost _ _ _ _ _ (shW w W2 0 [⟨a1,b1,l1⟩,⟨a2,b2,l2⟩]);obtain⟨_,d0,d1⟩:=sh_end (k:=4) (c:=0) (O H2) rfl rfl (by simp);refine bodyPost_ret (v:=.agg #[H 0,.slice (some (Y W2.heap.size 0)) 2 2]) ?_ rfl (shp_fin (O H2) rfl rfl (by simp));change (shW w W2 0 [⟨a1,b1,l1⟩,⟨a2,b2,l2⟩]).cell? _ = _ at d0 d1;generalize shW w W2 0 [⟨a1,b1,l1⟩,⟨a2,b2,l2⟩]=V9 at d0 d1 |-;simp[results,Tryz.f129,go_sem,d0,d1]
theorem shape8_any (w:World):Calls Tryz.prog 129 #[H 8] w fun e w'=>eQ 8 w e w':=by
 have H0:=U (sh_start w);go_enter Tryz.func129,Tryz.ntmps129;go_wp2_with fail;generalize (w.alloc (me #[H 0,.slice none 0 0] 207))=W0 at H0 |-;refine(mk11_fld W0).mono ?_;rintro e W1 ⟨a1,b1,l1,rfl,hf,K⟩;have H1:=U (dY (O H0) hf K);clear hf K H0;have c0:=J (O H1).x 0 rfl;have c1:=J (O H1).x 1 rfl;obtain ⟨f0,f1⟩:=r0_2 (O H1).x rfl;have hs:=(O H1).s;go_wp2_with fail;clear c0 c1 f0 f1;change bodyPost _ _ _ _ _ (shW w W1 0 [⟨a1,b1,l1⟩]);obtain⟨_,d0,d1⟩:=sh_end (k:=8) (c:=0) (O H1) rfl rfl (by simp);refine bodyPost_ret (v:=.agg #[H 0,.slice (some (Y W1.heap.size 0)) 1 1]) ?_ rfl (shp_fin (O H1) rfl rfl (by simp));change (shW w W1 0 [⟨a1,b1,l1⟩]).cell? _ = _ at d0 d1;generalize shW w W1 0 [⟨a1,b1,l1⟩]=V9 at d0 d1 |-;simp[results,Tryz.f129,go_sem,d0,d1]
abbrev shape4_any (w:World):=(ld w).1
abbrev shape5_any (w:World):=(ld w).2.1
abbrev shape6_any (w:World):=(ld w).2.2.1
abbrev shape7_any (w:World):=(ld w).2.2.2.1
abbrev shape9_any (w:World):=(ld w).2.2.2.2
end Go.Proofs.YtkofhemdefffpaaGreatDoor
namespace Go.Proofs.YtkofhemdefffpaaGreatDoor
open Go
def zz (n:Int):Nat:=if n<0 then(-2*n-1).toNat else(2*n).toNat
def putU (u:Nat):List Int:=if u<128 then[(u:Int)] else((u:Int) % 128+128)::putU (u / 128)
termination_by u
decreasing_by omega
theorem iE {u:Nat}(h:u<128):putU u = [(u:Int)]:=by rw[putU,if_pos h]
theorem iY {u:Nat}(h:¬ u<128):putU u=((u:Int) % 128+128)::putU (u / 128):=by rw[putU,if_neg h]
theorem putU_pos (u:Nat):1<=(putU u).length:=by
 rw[putU];split <;> simp
theorem putU_len:∀(k u:Nat),u<128 ^ (k+1)->(putU u).length<=k+1
 | 0,u,h=>by rw[iE (by simpa using h)];simp
 | k+1,u,h=>by
  by_cases hu:u<128
  ·rw[iE hu];simp
  ·rw[iY hu];have:=putU_len k (u / 128) (by rw[Nat.div_lt_iff_lt_mul (by omega)];rw[Nat.pow_succ] at h;exact h);simp only[List.length_cons];omega
theorem zH (u:Nat)(h:u<18446744073709551616):(putU u).length<=10:=
 putU_len 9 u (yK h (by decide))
def Lt64 (x:Nat):Prop:=x<18446744073709551616
theorem putU_at {u0 x:Nat}{done:List Int}(hu:(putU u0).length<=10)(h:done++putU x=putU u0):done.length<=9:=by
 have:=congrArg List.length h;have Z:=putU_pos x;rw[yQ] at this;omega
theorem putU_step {u0 x:Nat}{done:List Int}(hx:¬ x<128)(h:done++putU x=putU u0):(done ++ [(x:Int) % 128+128])++putU (x / 128)=putU u0:=by
 rw[<- h,iY hx,List.append_assoc];rfl
theorem putU_end {u0 x:Nat}{done:List Int}(hx:x<128)(h:done++putU x=putU u0):done ++ [(x:Int)]=putU u0:=by
 rw[<- h,iE hx]
theorem dy (n:Int)(h0:-9223372036854775808<=n)(Z:n<=9223372036854775807):zz n<18446744073709551616:=by
 unfold zz;split <;> omega
theorem xor_ones (x:Nat)(h:x<18446744073709551616):x ^^^ 18446744073709551615=18446744073709551615-x:=by
 have e:=congrArg BitVec.toNat (BitVec.xor_allOnes (x:=BitVec.ofNat 64 x));rw[BitVec.toNat_xor,BitVec.toNat_not,BitVec.toNat_allOnes,BitVec.toNat_ofNat] at e;have hm:x % 2 ^ 64=x:=Nat.mod_eq_of_lt h;rw[hm] at e;exact e
theorem fold_neg (n:Int)(h0:-9223372036854775808<=n)(Z:n<0) :
  bits .xor .u64 (IntKind.u64.wrap (IntKind.u64.wrap n*2)) (IntKind.u64.wrap (n / 9223372036854775808))=(zz n:Int):=by
 simp only[IntKind.wrap_u64];have e1:n % 18446744073709551616*2 % 18446744073709551616=2*n+18446744073709551616:=by omega
 have e2:n / 9223372036854775808 % 18446744073709551616=18446744073709551615:=by omega
 rw[e1,e2,u64_xor _ _ (by omega) (by omega) (by omega) (by omega)];have e3:(18446744073709551615:Int).toNat=18446744073709551615:=rfl;rw[e3,xor_ones _ (by omega)];unfold zz;rw[if_pos Z];omega
theorem fold_pos (n:Int)(h0:0<=n)(Z:n<=9223372036854775807) :
  bits .xor .u64 (IntKind.u64.wrap (IntKind.u64.wrap n*2)) (IntKind.u64.wrap (n / 9223372036854775808))=(zz n:Int):=by
 simp only[IntKind.wrap_u64];have e1:n % 18446744073709551616*2 % 18446744073709551616=2*n:=by omega
 have e2:n / 9223372036854775808 % 18446744073709551616=0:=by omega
 rw[e1,e2,u64_xor _ _ (by omega) (by omega) (by omega) (by omega)];have e3:(0:Int).toNat=0:=rfl;rw[e3,Nat.xor_zero];unfold zz;rw[if_neg (by omega)]
theorem fold_eq (n:Int)(h0:-9223372036854775808<=n)(Z:n<=9223372036854775807) :
  bits .xor .u64 (IntKind.u64.wrap (IntKind.u64.wrap n*2)) (IntKind.u64.wrap (n / 9223372036854775808))=(zz n:Int):=by
 by_cases h:n<0
 ·exact fold_neg n h0 h
 ·exact fold_pos n (by omega) Z
theorem not_eq (n:Int)(h0:-9223372036854775808<=n)(Z:n<0) :
  bits .xor .u64 IntKind.u64.max (IntKind.u64.wrap (IntKind.u64.wrap n*2))=(zz n:Int):=by
 have em:IntKind.u64.max=18446744073709551615:=by decide
 simp only[IntKind.wrap_u64,em];have e1:n % 18446744073709551616*2 % 18446744073709551616=2*n+18446744073709551616:=by omega
 rw[e1,u64_xor _ _ (by omega) (by omega) (by omega) (by omega)];have e3:(18446744073709551615:Int).toNat=18446744073709551615:=rfl;rw[e3,Nat.xor_comm,xor_ones _ (by omega)];unfold zz;rw[if_pos Z];omega
theorem twice_eq (n:Int)(h0:0<=n)(Z:n<=9223372036854775807):IntKind.u64.wrap (IntKind.u64.wrap n*2)=(zz n:Int):=by
 simp only[IntKind.wrap_u64];unfold zz;rw[if_neg (by omega)];omega
theorem and127 (x:Nat)(h:x<18446744073709551616):bits .and .u64 (x:Int) 127=(x:Int) % 128:=by
 have:=u64_and_nat x 127 h (by omega);rw[show((127:Nat):Int)=127 from rfl] at this;rw[this,show x &&& 127=x % 128 from Nat.and_two_pow_sub_one_eq_mod x 7];omega
theorem or128 (x:Nat):bits .or .u8 ((x:Int) % 256) 128=(x:Int) % 128+128:=by
 rw[u8_or _ _ (by omega) (by omega) (by omega) (by omega)];have e:((x:Int) % 256).toNat=x % 256:=by omega
 have e2:(128:Int).toNat=128:=rfl;rw[e,e2];have K:∀y:Nat,y<256->y ||| 128=y % 128+128:=by decide +kernel
 rw[K _ (Nat.mod_lt _ (by omega))];omega
end Go.Proofs.YtkofhemdefffpaaGreatDoor
