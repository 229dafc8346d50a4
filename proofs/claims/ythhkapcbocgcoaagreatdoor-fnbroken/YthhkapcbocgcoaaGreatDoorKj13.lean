/-.-/
import Derived.Test.YthhkapcbocgcoaaGreatDoorKj04
import Derived.Laws.BitsAllLaws
import Derived.Laws.Bits64
import Derived.Lib.AppendStr
set_option linter.unusedVariables false
set_option maxHeartbeats 6400000
set_option maxRecDepth 100000
namespace Go.Proofs.YthhkapcbocgcoaaGreatDoor
open Go.RowKit
def fl8 (u:Nat):List Int:=[(u:Int) / 72057594037927936 % 256,(u:Int) / 281474976710656 % 256,(u:Int) / 1099511627776 % 256,(u:Int) / 4294967296 % 256,
 (u:Int) / 16777216 % 256,(u:Int) / 65536 % 256,(u:Int) / 256 % 256,(u:Int) % 256]
theorem fl8_len (u:Nat):(fl8 u).length=8:=rfl
theorem Tryz.arrayLen228:Tryz.prog.arrayLen 228 = 8:=by kernel_rfl
theorem slice_all8 (B:Nat)(W:World) :
  (Instr.sliceAt 228 (I B 0) none none none).run Tryz.prog W = .ok (.slice (some (J B 0)) 8 8) W:=by
 rw[run_sliceAt_array_all W 228 _ (by kernel_rfl),Tryz.arrayLen228];have hs:(sizeOf (Tryz.prog.elem 228)).run Tryz.prog W = .ok 1 W:=by kernel_rfl
 rw[hs];simp[slicedAt,Result.andThen,Addr.add]
theorem implFloat_bits (x u:Nat)(w:World)(hu:fbit x=u) :
  Calls Tryz.prog 176 #[yj x] w fun e w'=>∃v,e = .returned v/\OwnT w.heap.size w' v (fl8 u)/\yn w w':=by
 have hsl:=slice_all8 w.heap.size;have HF:=Z (fun w=>hu ▸ lN x w);clear hu;go_enter Tryz.func176,Tryz.ntmps176;go_wp2_with (go_at_call 93;refine(U HF _).mono ?_;rintro e w' ⟨rfl,rfl⟩);refine wp_loop_rounds 9 ?_
 repeat (rw[rounds_succ];go_wp2_with fail)
 go_ret;exact⟨_,rfl,⟨_,8,_,_,rfl,Nat.le_refl _,heap_alloc_new _ _,by rw[fl8_len];decide,by simp,by unfold maxLen;omega,by rw[fl8_len];decide,by simp[fl8]⟩,mn _ _⟩
theorem implFloat_any (x:Nat)(w:World) :
  Calls Tryz.prog 176 #[yj x] w fun e w'=>∃v,e = .returned v/\OwnT w.heap.size w' v (fl8 (fbit x))/\yn w w':=
 implFloat_bits x _ w rfl
end Go.Proofs.YthhkapcbocgcoaaGreatDoor
namespace Go.Proofs.YthhkapcbocgcoaaGreatDoor
open Go
def zz (n:Int):Nat:=if n<0 then(-2*n-1).toNat else(2*n).toNat
def putU (u:Nat):List Int:=if u<128 then[(u:Int)] else((u:Int) % 128+128)::putU (u / 128)
termination_by u
decreasing_by omega
theorem iY {u:Nat}(h:u<128):putU u = [(u:Int)]:=by rw[putU,if_pos h]
theorem lI {u:Nat}(h:¬ u<128):putU u=((u:Int) % 128+128)::putU (u / 128):=by rw[putU,if_neg h]
theorem putU_pos (u:Nat):1<=(putU u).length:=by
 rw[putU];split <;> simp
theorem putU_len:∀(k u:Nat),u<128 ^ (k+1)->(putU u).length<=k+1
 | 0,u,h=>by rw[iY (by simpa using h)];simp
 | k+1,u,h=>by
  by_cases hu:u<128
  ·rw[iY hu];simp
  ·rw[lI hu];have:=putU_len k (u / 128) (by rw[Nat.div_lt_iff_lt_mul (by omega)];rw[Nat.pow_succ] at h;exact h);simp only[List.length_cons];omega
theorem lJ (u:Nat)(h:u<18446744073709551616):(putU u).length<=10:=
 putU_len 9 u (yK h (by decide))
def Lt64 (x:Nat):Prop:=x<18446744073709551616
theorem putU_at {u0 x:Nat}{done:List Int}(hu:(putU u0).length<=10)(h:done++putU x=putU u0):done.length<=9:=by
 have:=congrArg List.length h;have D:=putU_pos x;rw[yQ] at this;omega
theorem putU_step {u0 x:Nat}{done:List Int}(hx:¬ x<128)(h:done++putU x=putU u0):(done ++ [(x:Int) % 128+128])++putU (x / 128)=putU u0:=by
 rw[<- h,lI hx,List.append_assoc];rfl
theorem putU_end {u0 x:Nat}{done:List Int}(hx:x<128)(h:done++putU x=putU u0):done ++ [(x:Int)]=putU u0:=by
 rw[<- h,iY hx]
theorem zz_lt (n:Int)(h0:-9223372036854775808<=n)(D:n<=9223372036854775807):zz n<18446744073709551616:=by
 unfold zz;split <;> omega
theorem xor_ones (x:Nat)(h:x<18446744073709551616):x ^^^ 18446744073709551615=18446744073709551615-x:=by
 have e:=congrArg BitVec.toNat (BitVec.xor_allOnes (x:=BitVec.ofNat 64 x));rw[BitVec.toNat_xor,BitVec.toNat_not,BitVec.toNat_allOnes,BitVec.toNat_ofNat] at e;have hm:x % 2 ^ 64=x:=Nat.mod_eq_of_lt h;rw[hm] at e;exact e
theorem fold_neg (n:Int)(h0:-9223372036854775808<=n)(D:n<0) :
  bits .xor .u64 (IntKind.u64.wrap (IntKind.u64.wrap n*2)) (IntKind.u64.wrap (n / 9223372036854775808))=(zz n:Int):=by
 simp only[IntKind.wrap_u64];have e1:n % 18446744073709551616*2 % 18446744073709551616=2*n+18446744073709551616:=by omega
 have e2:n / 9223372036854775808 % 18446744073709551616=18446744073709551615:=by omega
 rw[e1,e2,u64_xor _ _ (by omega) (by omega) (by omega) (by omega)];have e3:(18446744073709551615:Int).toNat=18446744073709551615:=rfl;rw[e3,xor_ones _ (by omega)];unfold zz;rw[if_pos D];omega
theorem fold_pos (n:Int)(h0:0<=n)(D:n<=9223372036854775807) :
  bits .xor .u64 (IntKind.u64.wrap (IntKind.u64.wrap n*2)) (IntKind.u64.wrap (n / 9223372036854775808))=(zz n:Int):=by
 simp only[IntKind.wrap_u64];have e1:n % 18446744073709551616*2 % 18446744073709551616=2*n:=by omega
 have e2:n / 9223372036854775808 % 18446744073709551616=0:=by omega
 rw[e1,e2,u64_xor _ _ (by omega) (by omega) (by omega) (by omega)];have e3:(0:Int).toNat=0:=rfl;rw[e3,Nat.xor_zero];unfold zz;rw[if_neg (by omega)]
theorem fold_eq (n:Int)(h0:-9223372036854775808<=n)(D:n<=9223372036854775807) :
  bits .xor .u64 (IntKind.u64.wrap (IntKind.u64.wrap n*2)) (IntKind.u64.wrap (n / 9223372036854775808))=(zz n:Int):=by
 by_cases h:n<0
 ·exact fold_neg n h0 h
 ·exact fold_pos n (by omega) D
theorem and127 (x:Nat)(h:x<18446744073709551616):bits .and .u64 (x:Int) 127=(x:Int) % 128:=by
 have:=u64_and_nat x 127 h (by omega);rw[show((127:Nat):Int)=127 from rfl] at this;rw[this,show x &&& 127=x % 128 from Nat.and_two_pow_sub_one_eq_mod x 7];omega
end Go.Proofs.YthhkapcbocgcoaaGreatDoor
namespace Go.Proofs.YthhkapcbocgcoaaGreatDoor
open Go.RowKit
structure Bx (W:World) (b:Nat) (vs:List Value):Prop where
 r:W.rangeAt b 0 vs
 t:W.there b 0 vs.length
theorem zn (w:World)(vs:List Value)(t:TypeId):Bx (w.alloc (Obj.cells vs.toArray t)) w.heap.size vs:=
 ⟨fun j u h=>by
  rw[cell_of_row _ w.heap.size (0+j) vs.toArray t (0,0) (heap_alloc_new w _)];simpa using h,gk (heap_alloc_new w _) (by simp)⟩
theorem zg {C b:Nat}{W V:World}{vs:List Value}(h:Bx W b vs)(E:Below C W V)(hC:b<C):Bx V b vs:=⟨zc h.r E hC,zl h.t E hC⟩
theorem A {W:World}{b:Nat}{vs:List Value}(h:Bx W b vs)(j:Nat){u:Value}(hj:vs[j]? = some u):W.cell? (J b j)=some u:=by
 have:=h.r j u hj;rwa[Nat.zero_add] at this
theorem zd {W:World}{b:Nat}{vs:List Value}(h:Bx W b vs)(j:Nat)(hj:j<vs.length):W.frozen? (J b j)=false:=by
 have:=(h.t j hj).2;rwa[Nat.zero_add] at this
theorem fi {W:World}{b j:Nat}{vs:List Value}{u:Value}(h:Bx W b vs)(hj:j<vs.length):Bx (W.setCell (J b j) u) b (vs.set j u):=by
 refine⟨fun i v hi=>?_,by rw[List.length_set];exact xc (vs:=[u]) h.t b j⟩;rw[Nat.zero_add]
 by_cases aB:j=i
 ·subst aB;rw[List.getElem?_set_self hj] at hi;cases hi;have:=h.r j _ (yI hj);rw[Nat.zero_add] at this;exact yN _ _ _ this
 ·rw[yX aB] at hi;have:=h.r i v hi;rw[Nat.zero_add] at this;rw[yM _ _ _ _ (ei aB)];exact this
theorem zq {W:World}{b:Nat}{vs us:List Value}(h:Bx W b vs)(hl:us.length=vs.length):Bx (W.setCells b 0 us) b us:=
 ⟨yY W b 0 us (fun j hj=>h.t j (by omega)),by rw[hl];exact xc h.t b 0 us⟩
theorem et (b k:Nat)(hk:k≠b):∀(vs:List Value) (o:Nat) (W:World),(W.setCells b o vs).heap[k]? = W.heap[k]?
 | [],_,_=>rfl
 | u::us,o,W=>by rw[World.setCells,et b k hk us (o+1)];exact yT _ _ _ _ hk
theorem dU {W V:World}{b:Nat}{vs:List Value}(h:Bx W b vs)(E:V.heap[b]? = W.heap[b]?):Bx V b vs:=
 ⟨fun j u hj=>by rw[yR (a:=(J b (0+j))) E];exact h.r j u hj,
  fun j hj=>by rw[yR (a:=(J b (0+j))) E,World.frozen?_of_block (a:=(J b (0+j))) E];exact h.t j hj⟩
theorem fg {W:World}{b c j:Nat}{vs:List Value}{u:Value}(h:Bx W b vs)(hc:b≠c):Bx (W.setCell (J c j) u) b vs:=dU h (yT _ _ _ _ hc)
theorem bx_others {W:World}{b c:Nat}{vs us:List Value}(h:Bx W b vs)(hc:b≠c):Bx (W.setCells c 0 us) b vs:=dU h (et c b hc us 0 W)
theorem gL {W:World}{b:Nat}{vs:List Value}(h:Bx W b vs)(n:Nat):Bx (W.drewN n) b vs:=⟨h.r,h.t⟩
theorem zM {W:World}{b:Nat}{vs:List Value}(h:Bx W b vs):Bx W.drew b vs:=⟨h.r,h.t⟩
theorem yz {W:World}{b:Nat}{v0 v1 v2 v3 v4 v5 v6 v7 v8 v9 v10 v11 v12 v13:Value}(h:Bx W b [v0,v1,v2,v3,v4,v5,v6,v7,v8,v9,v10,v11,v12,v13]):W.cell? ⟨b,0,none⟩=some v0/\W.cell? ⟨b,1,none⟩=some v1/\W.cell? ⟨b,2,none⟩=some v2/\W.cell? ⟨b,3,none⟩=some v3/\W.cell? ⟨b,4,none⟩=some v4/\W.cell? ⟨b,5,none⟩=some v5/\W.cell? ⟨b,6,none⟩=some v6/\W.cell? ⟨b,7,none⟩=some v7/\W.cell? ⟨b,8,none⟩=some v8/\W.cell? ⟨b,9,none⟩=some v9/\W.cell? ⟨b,10,none⟩=some v10/\W.cell? ⟨b,11,none⟩=some v11/\W.cell? ⟨b,12,none⟩=some v12/\W.cell? ⟨b,13,none⟩=some v13:=⟨A h 0 rfl,A h 1 rfl,A h 2 rfl,A h 3 rfl,A h 4 rfl,A h 5 rfl,A h 6 rfl,A h 7 rfl,A h 8 rfl,A h 9 rfl,A h 10 rfl,A h 11 rfl,A h 12 rfl,A h 13 rfl⟩
theorem yA {W:World}{b:Nat}{v0 v1 v2 v3 v4 v5 v6 v7:Value}(h:Bx W b [v0,v1,v2,v3,v4,v5,v6,v7]):W.cell? ⟨b,0,none⟩=some v0/\W.cell? ⟨b,1,none⟩=some v1/\W.cell? ⟨b,2,none⟩=some v2/\W.cell? ⟨b,3,none⟩=some v3/\W.cell? ⟨b,4,none⟩=some v4/\W.cell? ⟨b,5,none⟩=some v5/\W.cell? ⟨b,6,none⟩=some v6/\W.cell? ⟨b,7,none⟩=some v7:=⟨A h 0 rfl,A h 1 rfl,A h 2 rfl,A h 3 rfl,A h 4 rfl,A h 5 rfl,A h 6 rfl,A h 7 rfl⟩
theorem yB {W:World}{b:Nat}{v0 v1 v2 v3 v4 v5:Value}(h:Bx W b [v0,v1,v2,v3,v4,v5]):W.cell? ⟨b,0,none⟩=some v0/\W.cell? ⟨b,1,none⟩=some v1/\W.cell? ⟨b,2,none⟩=some v2/\W.cell? ⟨b,3,none⟩=some v3/\W.cell? ⟨b,4,none⟩=some v4/\W.cell? ⟨b,5,none⟩=some v5:=⟨A h 0 rfl,A h 1 rfl,A h 2 rfl,A h 3 rfl,A h 4 rfl,A h 5 rfl⟩
theorem mu (w:World)(vs:List Value)(t:TypeId):Below w.heap.size w (w.alloc (Obj.cells vs.toArray t))/\Hid (Bx (w.alloc (Obj.cells vs.toArray t)) w.heap.size vs):=⟨(Below.refl _ _).alloc (Nat.le_refl _) _,zn w vs t⟩
theorem mv (w:World)(vs:List Value)(t:TypeId):Hid (Below w.heap.size w (w.alloc (Obj.cells vs.toArray t)))/\Hid (Bx (w.alloc (Obj.cells vs.toArray t)) w.heap.size vs):=⟨(Below.refl _ _).alloc (Nat.le_refl _) _,zn w vs t⟩
theorem qq {W b vs i m us} (h:Bx W b vs) (e:(vs.drop i).take m=us) (j:Nat) (hj:j<m) {u} (hu:us[j]?=some u):W.cell? ⟨b,i+j,none⟩=some u:=A h _ (by subst e;rwa [List.getElem?_take_of_lt hj,List.getElem?_drop] at hu)
theorem rr {W b vs i j} (h:Bx W b vs) (e:vs[i]?.isSome=true) (hj:j<=i):W.frozen? ⟨b,j,none⟩=false:=zd h _ (by simp at e;omega)
theorem q0_2 {W b vs v0 v1} (h:Bx W b vs) (e:(vs.drop 0).take 2=[v0,v1]):W.cell? ⟨b,0,none⟩=some v0/\W.cell? ⟨b,1,none⟩=some v1:=⟨qq h e 0 (by decide) rfl,qq h e 1 (by decide) rfl⟩
theorem q0_5 {W b vs v0 v1 v2 v3 v4} (h:Bx W b vs) (e:(vs.drop 0).take 5=[v0,v1,v2,v3,v4]):W.cell? ⟨b,0,none⟩=some v0/\W.cell? ⟨b,1,none⟩=some v1/\W.cell? ⟨b,2,none⟩=some v2/\W.cell? ⟨b,3,none⟩=some v3/\W.cell? ⟨b,4,none⟩=some v4:=⟨qq h e 0 (by decide) rfl,qq h e 1 (by decide) rfl,qq h e 2 (by decide) rfl,qq h e 3 (by decide) rfl,qq h e 4 (by decide) rfl⟩
theorem q0_14 {W b vs v0 v1 v2 v3 v4 v5 v6 v7 v8 v9 v10 v11 v12 v13} (h:Bx W b vs) (e:(vs.drop 0).take 14=[v0,v1,v2,v3,v4,v5,v6,v7,v8,v9,v10,v11,v12,v13]):W.cell? ⟨b,0,none⟩=some v0/\W.cell? ⟨b,1,none⟩=some v1/\W.cell? ⟨b,2,none⟩=some v2/\W.cell? ⟨b,3,none⟩=some v3/\W.cell? ⟨b,4,none⟩=some v4/\W.cell? ⟨b,5,none⟩=some v5/\W.cell? ⟨b,6,none⟩=some v6/\W.cell? ⟨b,7,none⟩=some v7/\W.cell? ⟨b,8,none⟩=some v8/\W.cell? ⟨b,9,none⟩=some v9/\W.cell? ⟨b,10,none⟩=some v10/\W.cell? ⟨b,11,none⟩=some v11/\W.cell? ⟨b,12,none⟩=some v12/\W.cell? ⟨b,13,none⟩=some v13:=⟨qq h e 0 (by decide) rfl,qq h e 1 (by decide) rfl,qq h e 2 (by decide) rfl,qq h e 3 (by decide) rfl,qq h e 4 (by decide) rfl,qq h e 5 (by decide) rfl,qq h e 6 (by decide) rfl,qq h e 7 (by decide) rfl,qq h e 8 (by decide) rfl,qq h e 9 (by decide) rfl,qq h e 10 (by decide) rfl,qq h e 11 (by decide) rfl,qq h e 12 (by decide) rfl,qq h e 13 (by decide) rfl⟩
theorem r0_2 {W b vs} (h:Bx W b vs) (e:vs[1]?.isSome=true):W.frozen? ⟨b,0,none⟩=false/\W.frozen? ⟨b,1,none⟩=false:=⟨rr h e (by decide),rr h e (by decide)⟩
theorem r0_5 {W b vs} (h:Bx W b vs) (e:vs[4]?.isSome=true):W.frozen? ⟨b,0,none⟩=false/\W.frozen? ⟨b,1,none⟩=false/\W.frozen? ⟨b,2,none⟩=false/\W.frozen? ⟨b,3,none⟩=false/\W.frozen? ⟨b,4,none⟩=false:=⟨rr h e (by decide),rr h e (by decide),rr h e (by decide),rr h e (by decide),rr h e (by decide)⟩
theorem r0_14 {W b vs} (h:Bx W b vs) (e:vs[13]?.isSome=true):W.frozen? ⟨b,0,none⟩=false/\W.frozen? ⟨b,1,none⟩=false/\W.frozen? ⟨b,2,none⟩=false/\W.frozen? ⟨b,3,none⟩=false/\W.frozen? ⟨b,4,none⟩=false/\W.frozen? ⟨b,5,none⟩=false/\W.frozen? ⟨b,6,none⟩=false/\W.frozen? ⟨b,7,none⟩=false/\W.frozen? ⟨b,8,none⟩=false/\W.frozen? ⟨b,9,none⟩=false/\W.frozen? ⟨b,10,none⟩=false/\W.frozen? ⟨b,11,none⟩=false/\W.frozen? ⟨b,12,none⟩=false/\W.frozen? ⟨b,13,none⟩=false:=⟨rr h e (by decide),rr h e (by decide),rr h e (by decide),rr h e (by decide),rr h e (by decide),rr h e (by decide),rr h e (by decide),rr h e (by decide),rr h e (by decide),rr h e (by decide),rr h e (by decide),rr h e (by decide),rr h e (by decide),rr h e (by decide)⟩
theorem r1_8 {W b vs} (h:Bx W b vs) (e:vs[8]?.isSome=true):W.frozen? ⟨b,1,none⟩=false/\W.frozen? ⟨b,2,none⟩=false/\W.frozen? ⟨b,3,none⟩=false/\W.frozen? ⟨b,4,none⟩=false/\W.frozen? ⟨b,5,none⟩=false/\W.frozen? ⟨b,6,none⟩=false/\W.frozen? ⟨b,7,none⟩=false/\W.frozen? ⟨b,8,none⟩=false:=⟨rr h e (by decide),rr h e (by decide),rr h e (by decide),rr h e (by decide),rr h e (by decide),rr h e (by decide),rr h e (by decide),rr h e (by decide)⟩
structure Fc where
 n1:Nat
 n2:Nat
 l:Array Value
def Fc.vs (c:Fc):List Value:=[.func (.func c.n1) #[] c.l,.func (.func c.n2) #[] c.l]
theorem Fc.len (c:Fc):c.vs.length=2:=rfl
def plcV (o:Nat):Nat:=match o with
 | 1=>136
 | 2=>127
 | 3=>128
 | 4=>129
 | 5=>130
 | 6=>137
 | 9=>135
 | 10=>139
 | 11=>140
 | 12=>141
 | 13=>138
 | _=>0
def FF (W:World)(B o:Nat)(c:Fc):Prop:=
 if o=7 then c=⟨131,132,#[]⟩ else if o=8 then c=⟨133,134,#[]⟩ else
  ∃b,c=⟨172,174,#[I b 0]⟩/\B<=b/\b<W.heap.size/\W.cell? (J b 0)=some (.func (.func (plcV o)) #[] #[])
theorem iM {B C o:Nat}{W W':World}{c:Fc}(h:FF W B o c)(E:Below C W W')(hC:W.heap.size<=C):FF W' B o c:=by
 unfold FF at h |-;split
 ·rwa[if_pos ‹_›] at h
 ·rw[if_neg ‹_›] at h;split
  ·rwa[if_pos ‹_›] at h
  ·rw[if_neg ‹_›] at h;obtain⟨b,D,Y,h3,h4⟩:=h;exact⟨b,D,Y,yK h3 E.size,(E.cell (p:=(J b 0)) (yK h3 hC)).trans h4⟩
theorem ff_base {B B' o:Nat}{W:World}{c:Fc}(h:FF W B o c)(hB:B'<=B):FF W B' o c:=by
 unfold FF at h |-;split
 ·rwa[if_pos ‹_›] at h
 ·rw[if_neg ‹_›] at h;split
  ·rwa[if_pos ‹_›] at h
  ·rw[if_neg ‹_›] at h;obtain⟨b,D,Y,h3,h4⟩:=h;exact⟨b,D,yO hB Y,h3,h4⟩
def FEnd (o:Nat)(w:World)(e:Ending)(w':World):Prop:=∃n1 n2 l,e = .returned (.agg #[.func (.func n1) #[] l,.func (.func n2) #[] l])/\FF w' w.heap.size o ⟨n1,n2,l⟩/\Below w.heap.size w w'
theorem sfn (a:Addr)(f:Nat)(l:Array Value)(m:Mode)(w:World):(store a (.func (.func f) #[] l) m).run Tryz.prog w=stored Tryz.prog w a (.func (.func f) #[] l) m:=run_store _ w a _ m rfl
theorem cell_other2 {W:World}{b c i j:Nat}{u v:Value}(h:c≠b):((W.setCell (J b i) u).setCell (J b j) v).cell? (J c 0)=W.cell? (J c 0):=by
 unfold World.cell?;rw[yT _ _ _ _ h,yT _ _ _ _ h]
theorem numberField_any (p:Nat)(w:World) :
  Calls Tryz.prog 126 #[.func (.func p) #[] #[]] w fun e w'=>e = .returned (.agg #[.func (.func 172) #[] #[I w.heap.size 0],.func (.func 174) #[] #[I w.heap.size 0]])/\w.heap.size<w'.heap.size/\w'.cell? (J w.heap.size 0)=some (.func (.func p) #[] #[])/\Below w.heap.size w w':=by
 have hsfn:=sfn;go_enter Tryz.func126,Tryz.ntmps126;go_wp2;go_returns;refine⟨rfl,by simp;omega,?_,by go_grown⟩;rw[World.cell?_alloc_old _ _ _ (by show w.heap.size ≠ _;simp)];exact A (zn w [.func (.func p) #[] #[]] _) 0 rfl
def fA (w:World):Value:=.func (.func 172) #[] #[I (w.heap.size+1) 0]
def fB (w:World):Value:=.func (.func 174) #[] #[I (w.heap.size+1) 0]
def fW (w W1:World):World:=(W1.setCell (J w.heap.size 0) (fA w)).setCell (J w.heap.size 1) (fB w)
theorem fld_end {o:Nat}(h7:¬ o=7)(h8:¬ o=8){w W1:World}(E:Below w.heap.size w W1)(D:w.heap.size+1<W1.heap.size)(Y:W1.cell? (J (w.heap.size+1) 0)=some (.func (.func (plcV o)) #[] #[])):FEnd o w (.returned (.agg #[fA w,fB w])) (fW w W1):=by
 refine⟨_,_,_,rfl,?_,(E.setCell (p:=(J w.heap.size 0)) ya _).setCell (p:=(J w.heap.size 1)) ya _⟩;unfold FF;rw[if_neg h7,if_neg h8];refine⟨w.heap.size+1,rfl,by omega,by simpa[fW] using D,?_⟩;rw[fW,cell_other2 (by omega)];exact Y
theorem gh (w:World):(Calls Tryz.prog 85 #[] w fun e w'=>FEnd 1 w e w')/\(Calls Tryz.prog 78 #[] w fun e w'=>FEnd 2 w e w')/\(Calls Tryz.prog 79 #[] w fun e w'=>FEnd 3 w e w')/\(Calls Tryz.prog 80 #[] w fun e w'=>FEnd 4 w e w')/\(Calls Tryz.prog 81 #[] w fun e w'=>FEnd 5 w e w')/\(Calls Tryz.prog 86 #[] w fun e w'=>FEnd 6 w e w')/\(Calls Tryz.prog 84 #[] w fun e w'=>FEnd 9 w e w')/\(Calls Tryz.prog 88 #[] w fun e w'=>FEnd 10 w e w')/\(Calls Tryz.prog 89 #[] w fun e w'=>FEnd 11 w e w')/\(Calls Tryz.prog 90 #[] w fun e w'=>FEnd 12 w e w')/\(Calls Tryz.prog 87 #[] w fun e w'=>FEnd 13 w e w'):=by
 refine⟨?_,?_,?_,?_,?_,?_,?_,?_,?_,?_,?_⟩
 all_goals
  have hsfn:=sfn;have HX:=Z (zn w [.nilFunc,.nilFunc] 136);have HB:Hid (Below w.heap.size w (w.alloc (mq #[.nilFunc,.nilFunc] 136))):=mn _ _;have hz:(w.alloc (mq #[.nilFunc,.nilFunc] 136)).heap.size=w.heap.size+1:=by simp
  first|go_enter Tryz.func85,Tryz.ntmps85 | go_enter Tryz.func78,Tryz.ntmps78 | go_enter Tryz.func79,Tryz.ntmps79 | go_enter Tryz.func80,Tryz.ntmps80 | go_enter Tryz.func81,Tryz.ntmps81 | go_enter Tryz.func86,Tryz.ntmps86 | go_enter Tryz.func84,Tryz.ntmps84 | go_enter Tryz.func88,Tryz.ntmps88 | go_enter Tryz.func89,Tryz.ntmps89 | go_enter Tryz.func90,Tryz.ntmps90 | go_enter Tryz.func87,Tryz.ntmps87
  go_wp2_with fail;refine(numberField_any _ _).mono ?_;rintro e W1 ⟨rfl,D,Y,h3⟩;have hx:=zg (U HX) h3 (by rw[show(w.alloc (Obj.cells [Value.nilFunc,Value.nilFunc].toArray 136)).heap.size = _ from hz];omega);have uf:Hid (Below w.heap.size w W1):=(U HB).trans (h3.mono (U HB).size);rw[hz] at D Y h3 |-;obtain ⟨c0,c1⟩:=q0_2 hx rfl;obtain ⟨f0,f1⟩:=r0_2 hx rfl;have kf:=Z hx;have H12:=Z (And.intro D Y);clear D Y h3 hx hz HX HB;go_wp2_with fail;have bD:=fi (j:=1) (u:=fB w) (fi (j:=0) (u:=fA w) (U kf) (by simp)) (by simp);obtain ⟨d0,d1⟩:=q0_2 bD rfl;change bodyPost _ _ _ _ _ (fW w W1);refine bodyPost_ret (v:=.agg #[fA w,fB w]) ?_ rfl (fld_end (by decide) (by decide) (U uf) (U H12).1 (U H12).2)
  first|(simp[results,Tryz.f85,go_sem,d0,d1,fW];done)|(simp[results,Tryz.f78,go_sem,d0,d1,fW];done)|(simp[results,Tryz.f79,go_sem,d0,d1,fW];done)|(simp[results,Tryz.f80,go_sem,d0,d1,fW];done)|(simp[results,Tryz.f81,go_sem,d0,d1,fW];done)|(simp[results,Tryz.f86,go_sem,d0,d1,fW];done)|(simp[results,Tryz.f84,go_sem,d0,d1,fW];done)|(simp[results,Tryz.f88,go_sem,d0,d1,fW];done)|(simp[results,Tryz.f89,go_sem,d0,d1,fW];done)|(simp[results,Tryz.f90,go_sem,d0,d1,fW];done)|(simp[results,Tryz.f87,go_sem,d0,d1,fW];done)
abbrev mk1_fld (w:World):=(gh w).1
abbrev mk2_fld (w:World):=(gh w).2.1
abbrev mk3_fld (w:World):=(gh w).2.2.1
abbrev mk4_fld (w:World):=(gh w).2.2.2.1
abbrev mk5_fld (w:World):=(gh w).2.2.2.2.1
abbrev mk6_fld (w:World):=(gh w).2.2.2.2.2.1
abbrev mk9_fld (w:World):=(gh w).2.2.2.2.2.2.1
abbrev mk10_fld (w:World):=(gh w).2.2.2.2.2.2.2.1
abbrev mk11_fld (w:World):=(gh w).2.2.2.2.2.2.2.2.1
abbrev mk12_fld (w:World):=(gh w).2.2.2.2.2.2.2.2.2.1
abbrev mk13_fld (w:World):=(gh w).2.2.2.2.2.2.2.2.2.2
theorem mk7_fld (w:World):Calls Tryz.prog 82 #[] w fun e w'=>FEnd 7 w e w':=by
 have hsfn:=sfn;go_enter Tryz.func82,Tryz.ntmps82;go_wp2;go_returns;exact⟨_,_,_,rfl,by unfold FF;simp,by go_grown⟩
theorem mk8_fld (w:World):Calls Tryz.prog 83 #[] w fun e w'=>FEnd 8 w e w':=by
 have hsfn:=sfn;go_enter Tryz.func83,Tryz.ntmps83;go_wp2;go_returns;exact⟨_,_,_,rfl,by unfold FF;simp,by go_grown⟩
def sameE (a b:Ev):Bool:=(a.kind==b.kind)&&((a.id==b.id)&&((a.other==b.other)&&((a.qty==b.qty)&&((a.price==b.price)&&((a.reason==b.reason)&&((a.cmd.k==b.cmd.k)&&((a.cmd.s==b.cmd.s)&&((a.cmd.t==b.cmd.t)&&((a.cmd.l==b.cmd.l)&&((a.cmd.q==b.cmd.q)&&((a.cmd.i==b.cmd.i)&&((fbit a.cmd.p==fbit b.cmd.p)&&decide (a.cmd.g.toList=b.cmd.g.toList)))))))))))))
structure Rdr (B:Nat) (w:World) (v:Value) (k:Int):Prop where
 bytes:w.cell? ⟨B,0,none⟩=some v
 place:w.cell? ⟨B,1,none⟩=some (.int .i64 k)
 free:w.frozen? ⟨B,1,none⟩=false
theorem Rdr.drewN {B:Nat}{w:World}{v:Value}{k:Int}(h:Rdr B w v k)(n:Nat):Rdr B (w.drewN n) v k:=⟨h.1,h.2,h.3⟩
theorem Rdr.step {B:Nat}{w:World}{v:Value}{k:Int}(h:Rdr B w v k)(m:Int):Rdr B (w.setCell ⟨B,1,none⟩ (H m)) v m:=
 ⟨by rw[yM _ _ _ _ (ei (by omega))];exact h.1,yN _ _ _ h.2,by rw[World.frozen?_setCell];exact h.3⟩
def fo (c k:Int):List PanicEntry:=[{ v:=.iface 205 (.agg #[H c,H k]),recovered:=false }]
theorem gC (B:Nat)(c k:Int)(v:Value)(w:World)(hr:Rdr B w v k) :
  Calls Tryz.prog 145 #[.pointer (some ⟨B,0,none⟩),H c] w fun e w'=>e = .panicked (fo c k)/\w'=w:=by
 have Y:=hr.2;clear hr;go_enter Tryz.func145,Tryz.ntmps145;go_wp2;exact⟨rfl,rfl,rfl⟩
theorem take_end (B:Nat)(c k:Int)(a:Option Addr)(len cap:Nat)(w:World)(hr:Rdr B w (.slice a len cap) k)(h0:0<=k)(D:k<=len)(hl:len<=1073741824)(hc:(len:Int)-k<c)(qU:c<=1073741824) :
  Calls Tryz.prog 144 #[.pointer (some ⟨B,0,none⟩),H c] w fun e w'=>e = .panicked (fo 3 k)/\∃q,w'=w.drewN q:=by
 have HR:=Z hr;obtain⟨c1,c2,c3⟩:=hr;go_enter Tryz.func144,Tryz.ntmps144;go_wp2_with fail;go_quiet (fail);go_wp2_with fail;refine(gC B 3 k _ _ ((U HR).drewN _)).mono ?_;rintro e w1 ⟨rfl,rfl⟩;go_wp2_with fail;exact⟨rfl,rfl,_,rfl⟩
theorem take_ok (B:Nat)(c k:Nat)(b off len cap:Nat)(w:World)(hr:Rdr B w (.slice (some ⟨b,off,none⟩) len cap) k)(D:k+c<=len)(hl:len<=1073741824)(ur:len<=cap)(qU:1<=c) :
  Calls Tryz.prog 144 #[.pointer (some ⟨B,0,none⟩),H c] w fun e w'=>e = .returned (.slice (some ⟨b,off+k,none⟩) c (cap-k))/\∃q,w'=(w.setCell ⟨B,1,none⟩ (H (k+c:Nat))).drewN q:=by
 have HR:=Z hr;obtain⟨c1,c2,c3⟩:=hr;have h1':(k:Int)+c<=len:=by omega
 have dD:¬ ((len:Int)-k<c):=by omega
 have h3':(k:Int)+c<=cap:=by omega
 have xr:¬ (cap=k):=by omega
 go_enter Tryz.func144,Tryz.ntmps144;go_wp2_with fail;go_quiet (fail);go_wp2_with fail;go_quiet (fail);go_wp2_with fail;go_ret;refine⟨by simp,_,by congr 3⟩
theorem check_ok (B:Nat)(k:Int)(a:Option Addr)(len cap:Nat)(w:World)(hr:Rdr B w (.slice a len cap) k)(h0:0<=k)(D:k<=len)(hl:len<=65536) :
  Calls Tryz.prog 181 #[.pointer (some ⟨B,0,none⟩)] w fun e w'=>e = .returned (.tuple #[])/\∃q,w'=w.drewN q:=by
 obtain⟨c1,c2,c3⟩:=hr;have hl':(len:Int)<=65536:=by omega
 have hd:decide (k<0)=false:=by simpa using h0
 go_enter Tryz.func181,Tryz.ntmps181;go_wp2_with fail;go_quiet (fail);go_wp2_with fail;go_end0;exact⟨rfl,_,rfl⟩
theorem check_long (B:Nat)(k:Int)(a:Option Addr)(len cap:Nat)(w:World)(hr:Rdr B w (.slice a len cap) k)(hl:65536<len) :
  Calls Tryz.prog 181 #[.pointer (some ⟨B,0,none⟩)] w fun e w'=>e = .panicked (fo 2 k)/\∃q,w'=w.drewN q:=by
 have HR:=Z hr;obtain⟨c1,c2,c3⟩:=hr;have hl':(65536:Int)<len:=by omega
 go_enter Tryz.func181,Tryz.ntmps181;go_wp2_with fail;refine(gC B 2 k _ _ (U HR)).mono ?_;rintro e w1 ⟨rfl,rfl⟩;go_wp2_with fail;exact⟨rfl,rfl,0,rfl⟩
theorem check_out (B:Nat)(k:Int)(a:Option Addr)(len cap:Nat)(w:World)(hr:Rdr B w (.slice a len cap) k)(h:k<0\/(len:Int)<k)(hl:len<=65536) :
  Calls Tryz.prog 181 #[.pointer (some ⟨B,0,none⟩)] w fun e w'=>e = .panicked (fo 5 k)/\∃q,w'=w.drewN q:=by
 have HR:=Z hr;obtain⟨c1,c2,c3⟩:=hr;have hl':(len:Int)<=65536:=by omega
 rcases(show k<0\/(0<=k/\(len:Int)<k) by omega) with h0|⟨h0,D⟩
 ·have hd:decide (k<0)=true:=by simpa using h0
  clear h;go_enter Tryz.func181,Tryz.ntmps181;go_wp2_with fail;go_quiet (fail);go_wp2_with fail;refine(gC B 5 k _ _ ((U HR).drewN _)).mono ?_;rintro e w1 ⟨rfl,rfl⟩;go_wp2_with fail;exact⟨rfl,rfl,_,rfl⟩
 ·have hd:decide (k<0)=false:=by simpa using h0
  clear h;go_enter Tryz.func181,Tryz.ntmps181;go_wp2_with fail;go_quiet (fail);go_wp2_with fail;refine(gC B 5 k _ _ ((U HR).drewN _)).mono ?_;rintro e w1 ⟨rfl,rfl⟩;go_wp2_with fail;exact⟨rfl,rfl,_,rfl⟩
def bl (s:ByteArray):List Int:=s.data.toList.map fun b=>(b.toNat:Int)
theorem bl_len (s:ByteArray):(bl s).length=s.size:=by simp[bl]
theorem bl_cells (s:ByteArray):Lib.strCells s=(bl s).map (Value.int .u8):=by simp[Lib.strCells,bl]
theorem run_room_text {P:Program}(w:World)(t u ty e tb:TypeId)(i:TypeInfo)(ht:P.underlying t=some (.slice e))(hu:P.underlying u=some .string)(hi:P.info? e=some i)(xJ:i.size=1)
  (g jA bF:Nat) (xA:Array Value) (X:w.heap[g]? = some (.cells xA tb (0,0))) (s:ByteArray) (bA:jA+s.size<=bF) (qV:jA+s.size<=xA.size) :
  (Builtin.append_ #[t,u] ty #[.slice (some (J g 0)) jA bF,yk s]).run P w =
   .ok (.slice (some (J g 0)) (jA+s.size) bF) (w.setRow g (xA.toList.take jA++Lib.strCells s++xA.toList.drop (jA+s.size)).toArray):=by
 have hf:=Lib.run_firstCells_string (P:=P) w 1 s;have qK:=run_storeCells_at P g jA tb (Lib.strCells s) 0 xA w X (by simpa[Lib.strCells_length] using qV) (Lib.strCells_oneCell s);simp only[Nat.add_zero,Lib.strCells_length] at qK;simp[Builtin.append_,run_underlying ht,run_underlying hu,sizeOf,typeInfo,hi,xJ,Builtin.lenOf,bA,hf,Addr.add_lit,qK]
theorem run_append_text {P:Program}(w:World)(B:Nat)(t u ty e:TypeId)(i:TypeInfo)(ht:P.underlying t=some (.slice e))(hu:P.underlying u=some .string)(hi:P.info? e=some i)
  (hz:i.zero=some (.int .u8 0)) (kA:i.size=1) (hby:i.bytes=1) (v:Value) (l:List Int) (xY:OwnT B w v l) (s:ByteArray) (E:l.length+s.size<=1073741824) (hB:B<=w.heap.size) :
  ∃v' w',(Builtin.append_ #[t,u] ty #[v,yk s]).run P w = .ok v' w'/\OwnT B w' v' (l++bl s)/\w.grownBy w' v.ownBlock:=by
 obtain⟨g,cap,xA,tb,rfl,hbg,X,qw,hcs,hcm,hl,pH⟩:=xY;have xC:(l++bl s).length=l.length+s.size:=by rw[yQ,bl_len]
 by_cases bA:l.length+s.size<=cap
 ·have hr:=run_room_text (P:=P) w t u ty e tb i ht hu hi kA g l.length cap xA X s bA (by omega);refine⟨_,_,hr,⟨g,cap,_,tb,by rw[xC],hbg,setRow_heap w g xA _ tb _ X,by omega,?_,hcm,by omega,?_⟩,⟨rfl,rfl,rfl,by simp,fun k _ hk=>setRow_other w g k _ (fun e=>hk (by simp[Value.ownBlock,e]))⟩⟩
  ·simp only[List.size_toArray,yQ,List.length_take,List.length_drop,Array.length_toList,Lib.strCells_length];omega
  ·rw[pH,bl_cells,<- List.map_append];exact List.take_left' (by simp)
 ·have hr:=Lib.run_append_grow_string (P:=P) w t u ty e i (.int .u8 0) ht hu hi hz (J g 0) l.length cap (l.map (Value.int .u8)) (by rw[kA];simp)
   (fun j x hj=>by
    have hj':j<l.length:=by
     rcases Nat.lt_or_ge j l.length with h|h
     ·exact h
     ·rw[List.getElem?_eq_none (by simpa using h)] at hj;cases hj
    have:=cell_head X pH hj';rw[List.getElem?_map,yI hj'] at hj;have e:((J g 0):Addr).add j=(J g j):=by unfold Addr.add;split <;> simp_all
    rw[e,this];simpa[hj'] using hj) s (by omega) (by omega) (by rw[hby];exact growslice_fits (by omega) (by omega))
  have hge:=grownCap_ge w (l.length+s.size) cap e;have hcm':grownCap w (l.length+s.size) cap e<=maxLen:=grownCap_le_maxLen w (l.length+s.size) cap e (by unfold maxLen;omega);refine⟨_,_,hr,⟨w.heap.size,_,_,e,by rw[xC],hB,heap_alloc_new w.drew _,by omega,?_,hcm',by omega,?_⟩,⟨rfl,rfl,rfl,by simp,fun k hk _=>Below.heap_alloc w.drew _ k hk⟩⟩
  ·have uG:(Value.int IntKind.u8 0).cells.size=1:=rfl;simp only[Array.size_append,List.size_toArray,size_zeroCells,uG,Lib.strCells_length,List.length_map];omega
  ·simp only[Array.toList_append,bl_cells,<- List.map_append];exact List.take_left' (by simp)
theorem wpList_append_text {P:Program}(w:World){ops:Array Oper}{rest:List Oper}{o:Oper}{a:Act}{ho:Exit->Act->World->Prop}(bd:o.guard=none)(sl x:Operand)(t u:TypeId)
  (Q:o.op = .call { callee:=.builtin .append,args:=#[sl,x],argTypes:=#[t,u] })
  (B:Nat) (e:TypeId) (i:TypeInfo) (ht:P.underlying t=some (.slice e)) (hu:P.underlying u=some .string) (hi:P.info? e=some i)
  (hz:i.zero=some (.int .u8 0)) (kA:i.size=1) (hby:i.bytes=1) (v:Value) (l:List Int) (hs:a.eval sl=v) (xY:OwnT B w v l) (s:ByteArray) (hx:a.eval x=yk s)
  (E:l.length+s.size<=1073741824) (hB:B<=w.heap.size)
  (h:∀v' w',OwnT B w' v' (l++bl s)->w.grownBy w' v.ownBlock->wpList P ops ho rest (a.put o.dst v') w'):wpList P ops ho (o::rest) a w:=by
 refine wpList_plain bd fun mR hK=>?_;obtain⟨v',w',hr,Y,h3⟩:=run_append_text (P:=P) w B t u o.type e i ht hu hi hz kA hby v l xY s E hB;unfold Oper.wp execOp;simp only[Q,resolve,invoke,builtin,Sem.run_bind,Sem.run_pure,Result.andThen_ok,List.map_toArray,List.map_cons,List.map_nil,hs,hx,hr];exact hK _ _ (h v' w' Y h3)
end Go.Proofs.YthhkapcbocgcoaaGreatDoor
