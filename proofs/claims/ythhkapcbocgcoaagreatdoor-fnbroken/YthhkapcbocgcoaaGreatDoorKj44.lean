/-.-/
import Derived.Test.YthhkapcbocgcoaaGreatDoorKj41
import Derived.Test.YthhkapcbocgcoaaGreatDoorKj43
set_option linter.unusedVariables false
set_option maxHeartbeats 6400000
set_option maxRecDepth 100000
namespace Go.Proofs.YthhkapcbocgcoaaGreatDoor
open Go.RowKit
theorem chance_any (B:Nat)(v:Value)(l:List Int)(m n:Int)(w:World)(h:Src B w v l m)(hm:m<=1000000000)(D:1<=n)(Y:n<=1073741824) :
  Calls Tryz.prog 55 #[I B 0,H n] w fun e w'=>∃b:Bool,e=ym (.bool b)/\zP B w v l (m+3) w':=by
 have HS:=Z h;clear h;go_enter Tryz.func55,Tryz.ntmps55;go_wp2_with fail;refine(zO B v l m n _ (U HS) hm D Y).mono ?_;rintro e w1 ⟨y,rfl,jj,kR,hE⟩;have HE:=Z hE;clear hE;go_wp2_with fail;go_ret;exact⟨_,rfl,U HE⟩
theorem odd_row (k:Nat)(w:World)(t:TypeId)(h:k<12) :
  ∃z:Int,-9223372036854775808<=z/\z<=9223372036854775807/\(w.alloc (.cells #[H 0,H (-1),H 1,H 2,H 63,H 64,H 65,H 4096,H 4097,H 9223372036854775807,H (-9223372036854775808),H 30] t)).cell? (yq w k)=some (H z):=by
 rcases(show k=0\/k=1\/k=2\/k=3\/k=4\/k=5\/k=6\/k=7\/k=8\/k=9\/k=10\/k=11 by omega) with rfl|rfl|rfl|rfl|rfl|rfl|rfl|rfl|rfl|rfl|rfl|rfl
 all_goals exact⟨_,by decide,by decide,cell_of_row _ _ _ _ _ (0,0) (heap_alloc_new w _)⟩
theorem odd_any (B:Nat)(v:Value)(l:List Int)(m:Int)(w:World)(h:Src B w v l m)(hm:m<=1000000000) :
  Calls Tryz.prog 158 #[I B 0] w fun e w'=>∃y:Int,e=ym (H y)/\-9223372036854775808<=y/\y<=9223372036854775807/\zP B w v l (m+3) w':=by
 have HS:=Z h;have hB:=src_lt h;clear h;go_enter Tryz.func158,Tryz.ntmps158;go_wp2_with fail;refine(zO B v l m 12 _ (fD (eS (U HS)) _).1 hm (by omega) (by omega)).mono ?_;rintro e w1 ⟨y,rfl,jj,kR,hE⟩;obtain⟨k,rfl⟩:=Int.eq_ofNat_of_zero_le jj;obtain⟨z,uI,uG,hz⟩:=odd_row k w 3 (by omega);have HE:=Z (show zP B w v l (m+3) w1 from⟨hE.1,zw (fh w _ _) hE.2⟩);have hc:=hE.2.cell hz (by simp;omega);clear hE hz;go_wp2_with fail;go_ret;exact⟨_,rfl,uI,uG,U HE⟩
theorem number_drawn (B:Nat)(v:Value)(l:List Int)(m:Int)(w:World)(h:Src B w v l m)(hm:m<=900000000) :
  Calls Tryz.prog 110 #[I B 0] w fun e w'=>∃y:Int,e=ym (H y)/\-9223372036854775808<=y/\y<=9223372036854775807/\zP B w v l (m+6) w':=by
 have HS:=Z h;clear h;go_enter Tryz.func110,Tryz.ntmps110;go_wp2_with fail;refine(chance_any B v l m 4 _ (U HS) (by omega) (by omega) (by omega)).mono ?_;rintro e w1 ⟨b,rfl,hE⟩;have HE:=Z hE;clear hE;cases b
 ·go_wp2_with fail;refine(zO B v l _ 400 _ (U HE).1 (by omega) (by omega) (by omega)).mono ?_;rintro e w2 ⟨y,rfl,jj,kR,hE2⟩;have kC:=Z hE2;clear hE2;go_wp2_with fail;go_ret;exact⟨_,rfl,by omega,by omega,eH (U kC).1 (by omega),zw (U HE).2 (U kC).2⟩
 ·go_wp2_with fail;refine(odd_any B v l _ _ (U HE).1 (by omega)).mono ?_;rintro e w2 ⟨y,rfl,jj,kR,hE2⟩;have kC:=Z hE2;clear hE2;go_wp2_with fail;go_ret;exact⟨_,rfl,jj,kR,eH (U kC).1 (by omega),zw (U HE).2 (U kC).2⟩
theorem sub_one (W:World):(binOp .sub 31 (yj 4607182418800017408) (yj 4607182418800017408)).run Tryz.prog W = .ok (yj 0) W:=by
 have h:FloatKind.f64.format.sub 4607182418800017408 4607182418800017408=some 0:=by kernel_rfl
 simp[binOp,Op.floatArith,h]
theorem neg_zero (W:World):(Op.unary .neg (yj 0)).run Tryz.prog W = .ok (yj 9223372036854775808) W:=by
 kernel_rfl
theorem one_zero (W:World):(binOp .quo 31 (yj 4607182418800017408) (yj 0)).run Tryz.prog W = .ok (yj 9218868437227405312) W:=by
 have h:FloatKind.f64.format.div 4607182418800017408 0=some 9218868437227405312:=by kernel_rfl
 simp[binOp,Op.floatArith,h]
theorem less_zero (W:World):(binOp .quo 31 (yj 13830554455654793216) (yj 0)).run Tryz.prog W = .ok (yj 18442240474082181120) W:=by
 have h:FloatKind.f64.format.div 13830554455654793216 0=some 18442240474082181120:=by kernel_rfl
 simp[binOp,Op.floatArith,h]
def nanOf (W:World):Nat:=(Question.nanBits .f64 0 0).cut (W.tape W.drawn (.nanBits .f64 0 0))
theorem zero_zero (W:World):(binOp .quo 31 (yj 0) (yj 0)).run Tryz.prog W = .ok (yj (nanOf W)) W.drew:=by
 have h:FloatKind.f64.format.div 0 0=none:=by kernel_rfl
 simp[binOp,Op.floatArith,h,nanOf,choose];rfl
theorem zero_any (w:World):Calls Tryz.prog 162 #[] w fun e w'=>e=ym (yj 0)/\w'=w:=by
 have h:=sub_one;go_enter Tryz.func162,Tryz.ntmps162;go_wp2_with fail;go_ret;exact⟨rfl,rfl⟩
theorem frombitsS (n:Int)(w:World):(callFunc 191 #[.int .u64 n]).run Tryz.prog w = .ok (.value (yj n.toNat)) w:=by
 rw[run_callFunc_extern (e:=Extern.MathFloatBits.float64frombits) Tryz.func191 (by kernel_rfl) (by kernel_rfl) (by kernel_rfl) (by kernel_rfl)];rfl

theorem pick_any (B g n:Nat)(v:Value)(l:List Int)(m:Int)(ts:List ByteArray)(w:World)(h:Src B w v l m)(hm:m<=1000000000)(X:g≠B)(hn:ts.length=n)(D:1<=n)(Y:n<=256)(hr:∀k s,ts[k]? = some s->w.cell? (J g k)=some (yk s)) :
  Calls Tryz.prog 64 #[I B 0,.slice (some (J g 0)) n n] w fun e w'=>∃s,e=ym (yk s)/\s∈ts/\zP B w v l (m+3) w':=by
 have HS:=Z h;have HR:=Z hr;have E:((n:Int)==0)=false:=by simp;omega
 clear h hr;go_enter Tryz.func64,Tryz.ntmps64;go_wp2_with fail;refine(zO B v l m n _ (U HS) hm (by omega) (by omega)).mono ?_;rintro e w1 ⟨y,rfl,jj,kR,hE⟩;obtain⟨k,rfl⟩:=Int.eq_ofNat_of_zero_le jj;have HE:=Z hE;have hk:k<n:=by omega
 obtain⟨s,hs⟩:∃s,ts[k]? = some s:=⟨_,yI (by omega)⟩;have hc:=hE.2.cell (U HR k s hs) (fun e=>X (Option.some.inj e));have HSS:=Z (yP hs);clear hE hs;go_wp2_with fail;go_ret;exact⟨s,rfl,U HSS,U HE⟩
def tags8:List ByteArray:=[⟨#[]⟩,⟨#[97]⟩,⟨#[100,101,115,107,32,55]⟩,⟨#[49,50,51,52,53,54,55,56,57,48,49,50]⟩,⟨#[49,50,51,52,53,54,55,56,57,48,49,50,51]⟩,⟨#[49,50,51,52,53,54,55,56,57,48,49,50,51,52,53,54,55,56,57,48]⟩,⟨#[195,169]⟩,⟨#[120,10]⟩]
theorem tags8_len:∀s∈tags8,s.size<=20:=by decide +kernel
theorem tag_drawn (B:Nat)(v:Value)(l:List Int)(m:Int)(w:World)(h:Src B w v l m)(hm:m<=1000000000) :
  Calls Tryz.prog 117 #[I B 0] w fun e w'=>∃s,e=ym (yk s)/\s.size<=20/\zP B w v l (m+3) w':=by
 have HS:=Z h;have hB:=src_lt h;clear h;have HX:=Z (zn w (tags8.map .string) 9);go_enter Tryz.func117,Tryz.ntmps117;go_wp2_with fail;refine(pick_any B w.heap.size 8 v l m tags8 _ (fD (eS (U HS)) _).1 hm (by omega) rfl (by omega) (by omega) (fun k s hs=>A (U HX) k (by rw[List.getElem?_map,hs];rfl))).mono ?_;rintro e w1 ⟨s,rfl,hs,hE⟩;have HL:=Z (tags8_len s hs);have HE:=Z (show zP B w v l (m+3) w1 from⟨hE.1,zw (fh w _ _) hE.2⟩);clear hE hs HX;go_wp2_with fail;go_ret;exact⟨s,rfl,U HL,U HE⟩
structure DrC (B b:Nat) (w:World) (v:Value) (l:List Int) (m:Int) (W:World):Prop where
 e:zP B w v l m W
 t:W.there b 0 8
theorem fE {B:Nat}{w W W':World}{v:Value}{l:List Int}{m m':Int}(h:DrC B w.heap.size w v l m W)(hB:B<w.heap.size)(h':zP B W v l m' W')(hW:w.heap.size<W.heap.size):DrC B w.heap.size w v l m' W':=
 ⟨⟨h'.1,zw h.e.2 h'.2⟩,zK h.t h'.2 hW (fun e=>by have:=Option.some.inj e;omega)⟩
theorem src_far {B:Nat}{w:World}{v:Value}{l:List Int}{m:Int}(h:Src B w v l m):l ≠ []->∃k,v.ownBlock=some k/\k<w.heap.size:=fun xr=>by
 obtain⟨a,cap,rfl,hl,hc⟩:=h.rd;obtain⟨b,off,rfl,xt⟩:=hc xr;exact⟨b,rfl,yL w _ (xt 0 (List.length_pos_iff.2 xr))⟩
theorem ip {B:Nat}{w w':World}{v:Value}{l:List Int}{m:Int}{G:Option Nat}(h:Src B w v l m)(X:w.grownBy w' G)(hB:some B≠G)(hv:l ≠ []->v.ownBlock≠G):Src B w' v l m:=by
 have E:=X.block B (src_lt h) hB;obtain⟨a,s,k1,k2,k3,k4,k5,k6⟩:=h.cells;have e:∀i,w'.cell? (J B i)=w.cell? (J B i):=fun i=>yR (a:=(J B i)) E;have f:∀i,w'.frozen? (J B i)=w.frozen? (J B i):=fun i=>World.frozen?_of_block (a:=(J B i)) E;refine⟨?_,h.ne,h.bts,(e 0).trans h.code,⟨a,s,k1,k2,k3,k4,(e 1).trans k5,(e 2).trans k6⟩,(f 1).trans h.free1,(f 2).trans h.free2⟩;obtain⟨a,cap,rfl,hl,hc⟩:=h.rd;refine⟨a,cap,rfl,hl,fun xr=>?_⟩;obtain⟨b,off,rfl,xt⟩:=hc xr;exact⟨b,off,rfl,fun i hi=>(yR (a:=(J b (off+i))) (X.block b (yL w _ (xt i hi)) (hv xr))).trans (xt i hi)⟩
theorem gr_setsD (b:Nat):∀(vs:List Value) (o:Nat) (w:World),w.grownBy (w.setCells b o vs) (some b)
 | [],o,w=>by rw[World.setCells];exact yS _ _
 | v::vs,o,w=>by rw[World.setCells];exact zw (dX w (J b o) v) (gr_setsD b vs (o+1) _)
theorem eQ {B b o:Nat}{w W:World}{v:Value}{l:List Int}{m:Int}(hv:l ≠ []->∃k,v.ownBlock=some k/\k<w.heap.size)(h:zP B w v l m W)(hB:B<w.heap.size)(E:w.heap.size<=b)(vs:List Value):zP B w v l m (W.setCells b o vs):=by
 have g:=gr_setsD b vs o W;refine⟨ip h.1 g (fun e=>by have:=Option.some.inj e;omega) (fun xr e=>?_),?_⟩
 ·obtain⟨k,D,Y⟩:=hv xr;rw[D] at e;have:=Option.some.inj e;omega
 ·exact⟨g.os.trans h.2.os,g.tape.trans h.2.tape,g.output.trans h.2.output,yO h.2.size g.size,fun k hk xr=>(g.block k (yK hk h.2.size) (fun e=>by have:=Option.some.inj e;omega)).trans (h.2.block k hk xr)⟩

end Go.Proofs.YthhkapcbocgcoaaGreatDoor
namespace Go.Proofs.YthhkapcbocgcoaaGreatDoor
open Go.RowKit Ieee
set_option linter.unusedVariables false
def PrV (p:Nat):Prop:=PrW p/\p<18446744073709551616
def prB (p:Nat):Bool:=!tkOk p||(decide (1<=tk p)&&decide (tk p<=1000000))
theorem fx {p:Nat}(h:prB p=true):PrW p:=fun hk=>by
 rw[prB,hk] at h;simpa using h
theorem prW_nan {x:Nat}(h:nanB x=true):PrW x:=fun hk=>by
 exfalso;have D:=(nan_iff x).1 h
 have e:FloatKind.f64.format.order x 0=none:=by
  show(double.read x).order (double.read 0)=none;cases hx:double.read x with
  | nan s f=>rfl
  | infinity s=>rw[hx] at D;simp[Datum.isNaN] at D
  | number s m i=>rw[hx] at D;simp[Datum.isNaN] at D
 rw[tkOk,e] at hk;simp at hk
theorem nanOf_prW (W:World):PrV (nanOf W):=by
 have h:nanOf W=(W.tape W.drawn (.nanBits .f64 0 0) % 2)*2 ^ 63+0x7ff0000000000000+1+(W.tape W.drawn (.nanBits .f64 0 0) / 2) % (2 ^ 52-1):=rfl;rw[h];exact⟨prW_nan (nan_drawn _),by omega⟩
theorem copysign_anyT (w:World):Calls Tryz.prog 163 #[yj 0,yj 13830554455654793216] w fun e w'=>∃y:Nat,e=ym (yj y)/\PrV y/\w'=w:=by
 have D:=fbits;have Y:=frombitsS;go_enter Tryz.func163,Tryz.ntmps163;go_wp2_with fail;go_ret;exact⟨_,rfl,⟨fx (by kernel_rfl),by decide⟩,rfl⟩
theorem float_rowT (k n y:Nat)(w:World)(t:TypeId)(h:k<15)(hn:PrV n)(hy:PrV y) :
  ∃z:Nat,PrV z/\(w.alloc (.cells #[yj 0,yj 9223372036854775808,yj n,yj 9218868437227405312,yj 18442240474082181120,yj 4598175219545276416,yj 4636737291354636288,yj 4636719699168591872,
   yj 4687829947429945344,yj 4687829956019879936,yj 4591870180066957722,yj 13830554455654793216,yj y,yj 9094988921128908188,yj 1] t)).cell? (yq w k)=some (yj z):=by
 rcases(show k=0\/k=1\/k=2\/k=3\/k=4\/k=5\/k=6\/k=7\/k=8\/k=9\/k=10\/k=11\/k=12\/k=13\/k=14 by omega) with rfl|rfl|rfl|rfl|rfl|rfl|rfl|rfl|rfl|rfl|rfl|rfl|rfl|rfl|rfl
 all_goals first|exact⟨_,hn,cell_of_row _ _ _ _ _ (0,0) (heap_alloc_new w _)⟩|exact⟨_,hy,cell_of_row _ _ _ _ _ (0,0) (heap_alloc_new w _)⟩|exact⟨_,⟨fx (by kernel_rfl),by decide⟩,cell_of_row _ _ _ _ _ (0,0) (heap_alloc_new w _)⟩
theorem float_drawnT (B:Nat)(v:Value)(l:List Int)(m:Int)(w:World)(h:Src B w v l m)(hm:m<=900000000) :
  Calls Tryz.prog 116 #[I B 0] w fun e w'=>∃y:Nat,e=ym (yj y)/\PrV y/\zP B w v l (m+3) w':=by
 have HS:=Z h;have hB:=src_lt h;clear h;have e1:=neg_zero;have e2:=one_zero;have e3:=less_zero;have e4:=zero_zero;go_enter Tryz.func116,Tryz.ntmps116;go_wp2_with (first|(go_at_call 162;refine(zero_any _).mono ?_;rintro e w' ⟨rfl,rfl⟩)|(go_at_call 163;refine(copysign_anyT _).mono ?_;rintro e w' ⟨y0,rfl,jj,rfl⟩));have hn:=nanOf_prW w';generalize nanOf w'=n0 at *;refine(zO B v l m 15 _ (fY (fD (eS (U HS)) _) 1).1 (by omega) (by omega) (by omega)).mono ?_;rintro e w1 ⟨y,rfl,hy0',kR,hE⟩;obtain⟨k,rfl⟩:=Int.eq_ofNat_of_zero_le hy0';obtain⟨z,uG,hz⟩:=float_rowT k n0 y0 w' 31 (by omega) hn jj;have HE:=Z (show zP B w' v l (m+3) w1 from⟨hE.1,zw (zw (fh w' _ _) (ft _ 1 _)) hE.2⟩);have hc:=hE.2.cell (show(World.drewN _ 1).cell? _ = _ from hz) (by simp;omega);clear hE hz e1 e2 e3 e4;go_wp2_with fail;go_ret;exact⟨_,rfl,uG,U HE⟩
end Go.Proofs.YthhkapcbocgcoaaGreatDoor
namespace Go.Proofs.YthhkapcbocgcoaaGreatDoor
open Go.RowKit

def DrOk (c:Cm):Prop:=c.g.size<=20/\PrW c.p
def Mi (x:Int):Prop:=-9223372036854775808<=x/\x<=9223372036854775807
def DrIn (c:Cm):Prop:=Mi c.k/\Mi c.s/\Mi c.t/\Mi c.l/\Mi c.q/\Mi c.i/\c.p<18446744073709551616
theorem mi_wrap (x:Int):Mi (IntKind.i64.wrap x):=by rw[IntKind.wrap_i64];unfold Mi;omega
theorem eM {x:Int}(h:0<=x)(h':x<=1000000):Mi x:=by unfold Mi;omega
theorem drIn_new {a b c:Int}{s:ByteArray}(D:Mi a)(Y:Mi b)(h3:Mi c):DrIn ⟨1,a,b,0,c,0,0,s⟩:=⟨eM (x:=1) (by omega) (by omega),D,Y,eM (x:=0) (by omega) (by omega),h3,eM (x:=0) (by omega) (by omega),show 0<18446744073709551616 by decide⟩
theorem lR (B:Nat)(v:Value)(l:List Int)(m:Int)(w:World)(h:Src B w v l m)(hm:m<=800000000) :
  Calls Tryz.prog 63 #[I B 0] w fun e w'=>∃c:Cm,e=ym (.agg c.vs.toArray)/\DrOk c/\DrIn c/\zP B w v l (m+30) w':=by
 have HV:=Z (src_far h);have hB:=src_lt h;have aK:Hid (DrC B w.heap.size w v l m (w.alloc (mq (yx 0 0 0 0 0 0 0 ⟨#[]⟩).toArray 33))):=⟨fD (eS h) _,(zn w (yx 0 0 0 0 0 0 0 ⟨#[]⟩) 33).t⟩;have qJ:w.heap.size<(w.alloc (mq (yx 0 0 0 0 0 0 0 ⟨#[]⟩).toArray 33)).heap.size:=by simp
 clear h;go_enter Tryz.func63,Tryz.ntmps63;go_wp2_with fail;generalize (w.alloc (mq (yx 0 0 0 0 0 0 0 ⟨#[]⟩).toArray 33))=W0 at aK qJ |-;refine(zO B v l (m) 6 W0 (U aK).e.1 (by omega) (by omega) (by omega)).mono ?_;rintro e W1 ⟨y1,rfl,a0,b0,hE⟩;have HI1:Hid (Mi y1):=eM a0 (by omega);clear a0 b0;have jQ:=Z (fE (U aK) hB hE qJ);have xJ:w.heap.size<W1.heap.size:=yK qJ hE.2.size;clear hE aK qJ;go_wp2_with fail;refine(zO B v l (m+3) 4 W1 (U jQ).e.1 (by omega) (by omega) (by omega)).mono ?_;rintro e W2 ⟨y2,rfl,a0,b0,hE⟩;have HI2:Hid (Mi y2):=eM a0 (by omega);clear a0 b0;have oV:=Z (fE (U jQ) hB hE xJ);have ug:w.heap.size<W2.heap.size:=yK xJ hE.2.size;clear hE jQ xJ;go_wp2_with fail;refine(zO B v l (m+3+3) 7 W2 (U oV).e.1 (by omega) (by omega) (by omega)).mono ?_;rintro e W3 ⟨y3,rfl,a0,b0,hE⟩;have HI3:Hid (Mi y3):=eM a0 (by omega);clear a0 b0;have HD3:=Z (fE (U oV) hB hE ug);have oK:w.heap.size<W3.heap.size:=yK ug hE.2.size;clear hE oV ug;go_wp2_with fail;refine(zO B v l (m+3+3+3) 3 W3 (U HD3).e.1 (by omega) (by omega) (by omega)).mono ?_;rintro e W4 ⟨y4,rfl,a0,b0,hE⟩;have HI4:Hid (Mi y4):=eM a0 (by omega);clear a0 b0;have HD4:=Z (fE (U HD3) hB hE oK);have pF:w.heap.size<W4.heap.size:=yK oK hE.2.size;clear hE HD3 oK;go_wp2_with fail;refine(number_drawn B v l (m+3+3+3+3) W4 (U HD4).e.1 (by omega)).mono ?_;rintro e W5 ⟨y5,rfl,a0,b0,hE⟩;have HI5:Hid (Mi y5):=⟨a0,b0⟩;clear a0 b0;have HD5:=Z (fE (U HD4) hB hE pF);have hs5:w.heap.size<W5.heap.size:=yK pF hE.2.size;clear hE HD4 pF;go_wp2_with fail;refine(zO B v l (m+3+3+3+3+6) 3 W5 (U HD5).e.1 (by omega) (by omega) (by omega)).mono ?_;rintro e W6 ⟨y6,rfl,a0,b0,hE⟩;have HI6:Hid (Mi y6):=eM a0 (by omega);clear a0 b0;have HD6:=Z (fE (U HD5) hB hE hs5);have hs6:w.heap.size<W6.heap.size:=yK hs5 hE.2.size;clear hE HD5 hs5;go_wp2_with fail;refine(float_drawnT B v l (m+3+3+3+3+6+3) W6 (U HD6).e.1 (by omega)).mono ?_;rintro e W7 ⟨y7,rfl,hy7,hE⟩;have HD7:=Z (fE (U HD6) hB hE hs6);have hs7:w.heap.size<W7.heap.size:=yK hs6 hE.2.size;clear hE HD6 hs6;go_wp2_with fail;refine(tag_drawn B v l (m+3+3+3+3+6+3+3) W7 (U HD7).e.1 (by omega)).mono ?_;rintro e W8 ⟨y8,rfl,hy8,hE⟩;have HD8:=Z (fE (U HD7) hB hE hs7);have hs8:w.heap.size<W8.heap.size:=yK hs7 hE.2.size;clear hE HD7 hs7;have cA:=Z (U HD8).t;have xQ:Hid ((W8.setCells w.heap.size 0 (yx y1 y2 y3 y4 y5 y6 y7 y8)).rangeAt w.heap.size 0 (yx y1 y2 y3 y4 y5 y6 y7 y8)):=yY _ _ _ _ (U HD8).t;have qz:Hid (zP B w v l (m+3+3+3+3+6+3+3+3) (W8.setCells w.heap.size 0 (yx y1 y2 y3 y4 y5 y6 y7 y8))):=eQ (U HV) (U HD8).e hB ya _
 try dsimp only
 rename_i K1 cH K2 oz;refine oz _ _ ?_;have xE:=Z cH;clear cH oz;refine wpList_step fun K3 aV=>?_;have oO:=Z aV;clear aV;go_simp;refine U oO _ _ ?_;clear oO;refine wpList_store_mid rfl 33 (.tmp 2) (.tmp 19) rfl w.heap.size 0 (yx y1 y2 y3 y4 y5 y6 y7 y8).toArray rfl rfl (U cA) (by kernel_rfl) (by simp[Value.oneCell']) ?_;change wpList _ _ _ _ _ (W8.setCells w.heap.size 0 (yx y1 y2 y3 y4 y5 y6 y7 y8));generalize W8.setCells w.heap.size 0 (yx y1 y2 y3 y4 y5 y6 y7 y8)=WF at xQ qz |-;have cH:=U xE;go_wp2_with fail;have d0:=U xQ 0 _ rfl;have d1:=U xQ 1 _ rfl;have d2:=U xQ 2 _ rfl;have d3:=U xQ 3 _ rfl;have d4:=U xQ 4 _ rfl;have d5:=U xQ 5 _ rfl;have d6:=U xQ 6 _ rfl;have d7:=U xQ 7 _ rfl;simp only[Nat.zero_add] at d0 d1 d2 d3 d4 d5 d6 d7;refine bodyPost_ret (by simp[results,Tryz.results63,go_sem,d0,d1,d2,d3,d4,d5,d6,d7];try rfl) rfl ?_;exact⟨⟨y1,y2,y3,y4,y5,y6,y7,y8⟩,rfl,⟨hy8,hy7.1⟩,⟨U HI1,U HI2,U HI3,U HI4,U HI5,U HI6,hy7.2⟩,eH (U qz).1 (by omega),(U qz).2⟩
def PrO (k a b c:Nat):Prop:=∀W:World,(convert 3 31 (H k)).run Tryz.prog W = .ok (yj a) W/\(binOp .quo 31 (yj a) (yj 4616189618054758400)).run Tryz.prog W = .ok (yj b) W/\(binOp .add 31 (yj 4636666922610458624) (yj b)).run Tryz.prog W = .ok (yj c) W
theorem prO_of {k a b c:Nat}(D:∀W:World,(convert 3 31 (H k)).run Tryz.prog W = .ok (yj a) W)(Y:FloatKind.f64.format.div a 4616189618054758400=some b)(h3:FloatKind.f64.format.add 4636666922610458624 b=some c):PrO k a b c:=
 fun W=>⟨D W,by simp[binOp,Op.floatArith,Y],by simp[binOp,Op.floatArith,h3]⟩
theorem prO_0:PrO 0 0 0 4636666922610458624:=prO_of (fun W=>by kernel_rfl) (by kernel_rfl) (by kernel_rfl)
theorem prO_1:PrO 1 4607182418800017408 4598175219545276416 4636684514796503040:=prO_of (fun W=>by kernel_rfl) (by kernel_rfl) (by kernel_rfl)
theorem prO_2:PrO 2 4611686018427387904 4602678819172646912 4636702106982547456:=prO_of (fun W=>by kernel_rfl) (by kernel_rfl) (by kernel_rfl)
theorem prO_3:PrO 3 4613937818241073152 4604930618986332160 4636719699168591872:=prO_of (fun W=>by kernel_rfl) (by kernel_rfl) (by kernel_rfl)
theorem prO_4:PrO 4 4616189618054758400 4607182418800017408 4636737291354636288:=prO_of (fun W=>by kernel_rfl) (by kernel_rfl) (by kernel_rfl)
theorem prO_5:PrO 5 4617315517961601024 4608308318706860032 4636754883540680704:=prO_of (fun W=>by kernel_rfl) (by kernel_rfl) (by kernel_rfl)
theorem prO_6:PrO 6 4618441417868443648 4609434218613702656 4636772475726725120:=prO_of (fun W=>by kernel_rfl) (by kernel_rfl) (by kernel_rfl)
theorem prO_7:PrO 7 4619567317775286272 4610560118520545280 4636790067912769536:=prO_of (fun W=>by kernel_rfl) (by kernel_rfl) (by kernel_rfl)
theorem prO_8:PrO 8 4620693217682128896 4611686018427387904 4636807660098813952:=prO_of (fun W=>by kernel_rfl) (by kernel_rfl) (by kernel_rfl)
theorem prO_any (k:Nat)(h:k<9):∃a b c,PrO k a b c/\PrV c:=by
 rcases(by omega:k=0\/k=1\/k=2\/k=3\/k=4\/k=5\/k=6\/k=7\/k=8) with rfl|rfl|rfl|rfl|rfl|rfl|rfl|rfl|rfl
 ·exact⟨_,_,_,prO_0,fx (by kernel_rfl),by decide⟩
 ·exact⟨_,_,_,prO_1,fx (by kernel_rfl),by decide⟩
 ·exact⟨_,_,_,prO_2,fx (by kernel_rfl),by decide⟩
 ·exact⟨_,_,_,prO_3,fx (by kernel_rfl),by decide⟩
 ·exact⟨_,_,_,prO_4,fx (by kernel_rfl),by decide⟩
 ·exact⟨_,_,_,prO_5,fx (by kernel_rfl),by decide⟩
 ·exact⟨_,_,_,prO_6,fx (by kernel_rfl),by decide⟩
 ·exact⟨_,_,_,prO_7,fx (by kernel_rfl),by decide⟩
 ·exact⟨_,_,_,prO_8,fx (by kernel_rfl),by decide⟩
end Go.Proofs.YthhkapcbocgcoaaGreatDoor
namespace Go.Proofs.YthhkapcbocgcoaaGreatDoor
open Go.RowKit Ieee
set_option linter.unusedVariables false
end Go.Proofs.YthhkapcbocgcoaaGreatDoor
namespace Go.Proofs.YthhkapcbocgcoaaGreatDoor
open Go.RowKit

end Go.Proofs.YthhkapcbocgcoaaGreatDoor
namespace Go.Proofs.YthhkapcbocgcoaaGreatDoor
open Go.RowKit Ieee
set_option linter.unusedVariables false
end Go.Proofs.YthhkapcbocgcoaaGreatDoor
