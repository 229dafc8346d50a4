/-.-/
import Derived.Test.YtkofhemdefffpaaGreatDoorPq35
set_option linter.unusedVariables false
set_option maxHeartbeats 6400000
set_option maxRecDepth 100000
namespace Go.Proofs.YtkofhemdefffpaaGreatDoor
open Go.RowKit Ieee
set_option linter.unusedVariables false
def PrV (p:Nat):Prop:=PrW p/\p<18446744073709551616
def prB (p:Nat):Bool:=!tkOk p||(decide (1<=tk p)&&decide (tk p<=1000000))
theorem eP {p:Nat}(h:prB p=true):PrW p:=fun E=>by
 rw[prB,E] at h;simpa using h
theorem prW_nan {x:Nat}(h:nanB x=true):PrW x:=fun E=>by
 exfalso;have Z:=(nan_iff x).1 h
 have e:FloatKind.f64.format.order x 0=none:=by
  show(double.read x).order (double.read 0)=none;cases hx:double.read x with
  | nan s f=>rfl
  | infinity s=>rw[hx] at Z;simp[Datum.isNaN] at Z
  | number s m i=>rw[hx] at Z;simp[Datum.isNaN] at Z
 rw[tkOk,e] at E;simp at E
theorem nanOf_prW (W:World):PrV (nanOf W):=by
 have h:nanOf W=(W.tape W.drawn (.nanBits .f64 0 0) % 2)*2 ^ 63+0x7ff0000000000000+1+(W.tape W.drawn (.nanBits .f64 0 0) / 2) % (2 ^ 52-1):=rfl;rw[h];exact⟨prW_nan (nan_drawn _),by omega⟩
theorem copysign_anyT (w:World):Calls Tryz.prog 86 #[yk 0,yk 13830554455654793216] w fun e w'=>∃y:Nat,e=yn (yk y)/\PrV y/\w'=w:=by
 have Z:=fbits;have Q:=frombitsS;go_enter Tryz.func86,Tryz.ntmps86;go_wp2_with fail;go_ret;exact⟨_,rfl,⟨eP (by kernel_rfl),by decide⟩,rfl⟩
theorem float_rowT (k n y:Nat)(w:World)(t:TypeId)(h:k<15)(hn:PrV n)(hy:PrV y) :
  ∃z:Nat,PrV z/\(w.alloc (.cells #[yk 0,yk 9223372036854775808,yk n,yk 9218868437227405312,yk 18442240474082181120,yk 4598175219545276416,yk 4636737291354636288,yk 4636719699168591872,
   yk 4687829947429945344,yk 4687829956019879936,yk 4591870180066957722,yk 13830554455654793216,yk y,yk 9094988921128908188,yk 1] t)).cell? (yr w k)=some (yk z):=by
 rcases(show k=0\/k=1\/k=2\/k=3\/k=4\/k=5\/k=6\/k=7\/k=8\/k=9\/k=10\/k=11\/k=12\/k=13\/k=14 by omega) with rfl|rfl|rfl|rfl|rfl|rfl|rfl|rfl|rfl|rfl|rfl|rfl|rfl|rfl|rfl
 all_goals first|exact⟨_,hn,cell_of_row _ _ _ _ _ (0,0) (heap_alloc_new w _)⟩|exact⟨_,hy,cell_of_row _ _ _ _ _ (0,0) (heap_alloc_new w _)⟩|exact⟨_,⟨eP (by kernel_rfl),by decide⟩,cell_of_row _ _ _ _ _ (0,0) (heap_alloc_new w _)⟩
theorem float_drawnT (B:Nat)(v:Value)(l:List Int)(m:Int)(w:World)(h:Src B w v l m)(hm:m<=900000000) :
  Calls Tryz.prog 59 #[h3 B 0] w fun e w'=>∃y:Nat,e=yn (yk y)/\PrV y/\du B w v l (m+3) w':=by
 have HS:=U h;have hB:=src_lt h;clear h;have e1:=neg_zero;have e2:=one_zero;have e3:=less_zero;have e4:=zero_zero;go_enter Tryz.func59,Tryz.ntmps59;go_wp2_with (first|(go_at_call 85;refine(zero_any _).mono ?_;rintro e w' ⟨rfl,rfl⟩)|(go_at_call 86;refine(copysign_anyT _).mono ?_;rintro e w' ⟨y0,rfl,ph,rfl⟩));have hn:=nanOf_prW w';generalize nanOf w'=n0 at *;refine(ei B v l m 15 _ (iN (gA (fP (O HS)) _) 1).1 (by omega) (by omega) (by omega)).mono ?_;rintro e w1 ⟨y,rfl,hy0',cz,hE⟩;obtain⟨k,rfl⟩:=Int.eq_ofNat_of_zero_le hy0';obtain⟨z,xX,hz⟩:=float_rowT k n0 y0 w' 35 (by omega) hn ph;have HE:=U (show du B w' v l (m+3) w1 from⟨hE.1,zr (zr (fw w' _ _) (ef _ 1 _)) hE.2⟩);have hc:=hE.2.cell (show(World.drewN _ 1).cell? _ = _ from hz) (by simp;omega);clear hE hz e1 e2 e3 e4;go_wp2_with fail;go_ret;exact⟨_,rfl,xX,O HE⟩
end Go.Proofs.YtkofhemdefffpaaGreatDoor
namespace Go.Proofs.YtkofhemdefffpaaGreatDoor
open Go.RowKit
theorem pick_any (B g n:Nat)(v:Value)(l:List Int)(m:Int)(ts:List ByteArray)(w:World)(h:Src B w v l m)(hm:m<=1000000000)(F:g≠B)(hn:ts.length=n)(Z:1<=n)(Q:n<=256)(hr:∀k s,ts[k]? = some s->w.cell? (Y g k)=some (yl s)) :
  Calls Tryz.prog 38 #[h3 B 0,.slice (some (Y g 0)) n n] w fun e w'=>∃s,e=yn (yl s)/\s∈ts/\du B w v l (m+3) w':=by
 have HS:=U h;have HR:=U hr;have K:((n:Int)==0)=false:=by simp;omega
 clear h hr;go_enter Tryz.func38,Tryz.ntmps38;go_wp2_with fail;refine(ei B v l m n _ (O HS) hm (by omega) (by omega)).mono ?_;rintro e w1 ⟨y,rfl,ph,cz,hE⟩;obtain⟨k,rfl⟩:=Int.eq_ofNat_of_zero_le ph;have HE:=U hE;have E:k<n:=by omega
 obtain⟨s,hs⟩:∃s,ts[k]? = some s:=⟨_,yI (by omega)⟩;have hc:=hE.2.cell (O HR k s hs) (fun e=>F (Option.some.inj e));have HSS:=U (yP hs);clear hE hs;go_wp2_with fail;go_ret;exact⟨s,rfl,O HSS,O HE⟩
def tags8:List ByteArray:=[⟨#[]⟩,⟨#[97]⟩,⟨#[100,101,115,107,32,55]⟩,⟨#[49,50,51,52,53,54,55,56,57,48,49,50]⟩,⟨#[49,50,51,52,53,54,55,56,57,48,49,50,51]⟩,⟨#[49,50,51,52,53,54,55,56,57,48,49,50,51,52,53,54,55,56,57,48]⟩,⟨#[195,169]⟩,⟨#[120,10]⟩]
theorem tags8_len:∀s∈tags8,s.size<=20:=by decide +kernel
theorem tag_drawn (B:Nat)(v:Value)(l:List Int)(m:Int)(w:World)(h:Src B w v l m)(hm:m<=1000000000) :
  Calls Tryz.prog 60 #[h3 B 0] w fun e w'=>∃s,e=yn (yl s)/\s.size<=20/\du B w v l (m+3) w':=by
 have HS:=U h;have hB:=src_lt h;clear h;have HX:=U (zo w (tags8.map .string) 9);go_enter Tryz.func60,Tryz.ntmps60;go_wp2_with fail;refine(pick_any B w.heap.size 8 v l m tags8 _ (gA (fP (O HS)) _).1 hm (by omega) rfl (by omega) (by omega) (fun k s hs=>J (O HX) k (by rw[List.getElem?_map,hs];rfl))).mono ?_;rintro e w1 ⟨s,rfl,hs,hE⟩;have HL:=U (tags8_len s hs);have HE:=U (show du B w v l (m+3) w1 from⟨hE.1,zr (fw w _ _) hE.2⟩);clear hE hs HX;go_wp2_with fail;go_ret;exact⟨s,rfl,O HL,O HE⟩
structure DrC (B b:Nat) (w:World) (v:Value) (l:List Int) (m:Int) (W:World):Prop where
 e:du B w v l m W
 t:W.there b 0 8
theorem eS {B:Nat}{w W W':World}{v:Value}{l:List Int}{m m':Int}(h:DrC B w.heap.size w v l m W)(hB:B<w.heap.size)(h':du B W v l m' W')(hW:w.heap.size<W.heap.size):DrC B w.heap.size w v l m' W':=
 ⟨⟨h'.1,zr h.e.2 h'.2⟩,fK h.t h'.2 hW (fun e=>by have:=Option.some.inj e;omega)⟩
theorem src_far {B:Nat}{w:World}{v:Value}{l:List Int}{m:Int}(h:Src B w v l m):l ≠ []->∃k,v.ownBlock=some k/\k<w.heap.size:=fun xE=>by
 obtain⟨a,cap,rfl,hl,hc⟩:=h.rd;obtain⟨b,off,rfl,xp⟩:=hc xE;exact⟨b,rfl,yL w _ (xp 0 (List.length_pos_iff.2 xE))⟩
theorem src_keep {B:Nat}{w w':World}{v:Value}{l:List Int}{m:Int}{G:Option Nat}(h:Src B w v l m)(F:w.grownBy w' G)(hB:some B≠G)(hv:l ≠ []->v.ownBlock≠G):Src B w' v l m:=by
 have K:=F.block B (src_lt h) hB;obtain⟨a,s,k1,k2,k3,k4,k5,k6⟩:=h.cells;have e:∀i,w'.cell? (Y B i)=w.cell? (Y B i):=fun i=>yR (a:=(Y B i)) K;have f:∀i,w'.frozen? (Y B i)=w.frozen? (Y B i):=fun i=>World.frozen?_of_block (a:=(Y B i)) K;refine⟨?_,h.ne,h.bts,(e 0).trans h.code,⟨a,s,k1,k2,k3,k4,(e 1).trans k5,(e 2).trans k6⟩,(f 1).trans h.free1,(f 2).trans h.free2⟩;obtain⟨a,cap,rfl,hl,hc⟩:=h.rd;refine⟨a,cap,rfl,hl,fun xE=>?_⟩;obtain⟨b,off,rfl,xp⟩:=hc xE;exact⟨b,off,rfl,fun i hi=>(yR (a:=(Y b (off+i))) (F.block b (yL w _ (xp i hi)) (hv xE))).trans (xp i hi)⟩
theorem gr_setsD (b:Nat):∀(vs:List Value) (o:Nat) (w:World),w.grownBy (w.setCells b o vs) (some b)
 | [],o,w=>by rw[World.setCells];exact yS _ _
 | v::vs,o,w=>by rw[World.setCells];exact zr (fI w (Y b o) v) (gr_setsD b vs (o+1) _)
theorem gQ {B b o:Nat}{w W:World}{v:Value}{l:List Int}{m:Int}(hv:l ≠ []->∃k,v.ownBlock=some k/\k<w.heap.size)(h:du B w v l m W)(hB:B<w.heap.size)(K:w.heap.size<=b)(vs:List Value):du B w v l m (W.setCells b o vs):=by
 have g:=gr_setsD b vs o W;refine⟨src_keep h.1 g (fun e=>by have:=Option.some.inj e;omega) (fun xE e=>?_),?_⟩
 ·obtain⟨k,Z,Q⟩:=hv xE;rw[Z] at e;have:=Option.some.inj e;omega
 ·exact⟨g.os.trans h.2.os,g.tape.trans h.2.tape,g.output.trans h.2.output,yO h.2.size g.size,fun k E xE=>(g.block k (yK E h.2.size) (fun e=>by have:=Option.some.inj e;omega)).trans (h.2.block k E xE)⟩
end Go.Proofs.YtkofhemdefffpaaGreatDoor
