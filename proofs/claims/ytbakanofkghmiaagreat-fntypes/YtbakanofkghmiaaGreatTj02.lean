/-
  The source of drawn things: floats, proved by walking its methods.
-/
import Derived.Test.YtbakanofkghmiaaGreatTj01
import Derived.Handy
set_option linter.unusedVariables false
set_option maxHeartbeats 6400000
set_option maxRecDepth 100000
namespace Go.Proofs.YtbakanofkghmiaaGreat
open Go.RowKit
theorem sub_one (W:World):(binOp .sub 41 (yi 4607182418800017408) (yi 4607182418800017408)).run Tryz.prog W = .ok (yi 0) W:=by
 have h:FloatKind.f64.format.sub 4607182418800017408 4607182418800017408 = some 0:=by kernel_rfl
 simp [binOp,Op.floatArith,h]
theorem neg_zero (W:World):(Op.unary .neg (yi 0)).run Tryz.prog W = .ok (yi 9223372036854775808) W:=by
 kernel_rfl
theorem one_zero (W:World):(binOp .quo 41 (yi 4607182418800017408) (yi 0)).run Tryz.prog W = .ok (yi 9218868437227405312) W:=by
 have h:FloatKind.f64.format.div 4607182418800017408 0 = some 9218868437227405312:=by kernel_rfl
 simp [binOp,Op.floatArith,h]
theorem less_zero (W:World):(binOp .quo 41 (yi 13830554455654793216) (yi 0)).run Tryz.prog W = .ok (yi 18442240474082181120) W:=by
 have h:FloatKind.f64.format.div 13830554455654793216 0 = some 18442240474082181120:=by kernel_rfl
 simp [binOp,Op.floatArith,h]
def nanOf (W:World):Nat:=(Question.nanBits .f64 0 0).cut (W.tape W.drawn (.nanBits .f64 0 0))
theorem nanOf_lt (W:World):nanOf W < 18446744073709551616:=by
 have h:nanOf W = (W.tape W.drawn (.nanBits .f64 0 0) % 2) * 2 ^ 63 + 0x7ff0000000000000 + 1 + (W.tape W.drawn (.nanBits .f64 0 0) / 2) % (2 ^ 52 - 1):=rfl
 rw [h]
 omega
theorem zero_zero (W:World):(binOp .quo 41 (yi 0) (yi 0)).run Tryz.prog W = .ok (yi (nanOf W)) W.drew:=by
 have h:FloatKind.f64.format.div 0 0 = none:=by kernel_rfl
 simp [binOp,Op.floatArith,h,nanOf,choose]
 rfl
theorem zero_any (w:World):Calls Tryz.prog 163 #[] w fun e w'=>e = yl (yi 0)∧w' = w:=by
 have h:=sub_one
 go_enter Tryz.func163,Tryz.ntmps163
 go_wp2_with fail
 go_ret
 exact ⟨rfl,rfl⟩
theorem size_any (B:Nat) (v:Value) (l:List Int) (m most:Int) (w:World) (h:Src B w v l m) (h0:1 ≤ most) (Q:most ≤ 1000000) :
  Calls Tryz.prog 60 #[I B 0,H most] w fun e w'=>∃ y:Int,e = yl (H y)∧1 ≤ y∧y ≤ most∧w' = w:=by
 have c:=h.code
 obtain ⟨a,E,rfl,hl,_⟩:=h.rd
 clear h
 go_enter Tryz.func60,Tryz.ntmps60
 go_wp2_with fail
 all_goals go_ret
 all_goals exact ⟨_,rfl,by omega,by omega,rfl⟩
theorem frombitsS (n:Int) (w:World):(callFunc 169 #[.int .u64 n]).run Tryz.prog w = .ok (.value (yi n.toNat)) w:=by
 rw [run_callFunc_extern (e:=Extern.MathFloatBits.float64frombits) Tryz.func169 (by kernel_rfl) (by kernel_rfl) (by kernel_rfl) (by kernel_rfl)]
 rfl
theorem copysign_any (w:World):Calls Tryz.prog 164 #[yi 0,yi 13830554455654793216] w fun e w'=>∃ y:Nat,e = yl (yi y)∧y < 18446744073709551616∧w' = w:=by
 have Q:=fbits
 have N:=frombitsS
 go_enter Tryz.func164,Tryz.ntmps164
 go_wp2_with fail
 go_ret
 exact ⟨_,rfl,by decide +kernel,rfl⟩
theorem float_row (k n y:Nat) (w:World) (t:TypeId) (h:k < 15) (hn:n < 18446744073709551616) (hy:y < 18446744073709551616) :
  ∃ z:Nat,z < 18446744073709551616∧(w.alloc (.cells #[yi 0,yi 9223372036854775808,yi n,yi 9218868437227405312,yi 18442240474082181120,yi 4598175219545276416,yi 4636737291354636288,yi 4636719699168591872,
   yi 4687829947429945344,yi 4687829956019879936,yi 4591870180066957722,yi 13830554455654793216,yi y,yi 9094988921128908188,yi 1] t)).cell? (yp w k) = some (yi z):=by
 rcases (show k = 0 ∨ k = 1 ∨ k = 2 ∨ k = 3 ∨ k = 4 ∨ k = 5 ∨ k = 6 ∨ k = 7 ∨ k = 8 ∨ k = 9 ∨ k = 10 ∨ k = 11 ∨ k = 12 ∨ k = 13 ∨ k = 14 by omega) with rfl | rfl | rfl | rfl | rfl | rfl | rfl | rfl | rfl | rfl | rfl | rfl | rfl | rfl | rfl
 all_goals first | exact ⟨_,by decide,cell_of_row _ _ _ _ _ (0,0) (heap_alloc_new w _)⟩ | exact ⟨_,hn,cell_of_row _ _ _ _ _ (0,0) (heap_alloc_new w _)⟩ | exact ⟨_,hy,cell_of_row _ _ _ _ _ (0,0) (heap_alloc_new w _)⟩
theorem float_drawn (B:Nat) (v:Value) (l:List Int) (m:Int) (w:World) (h:Src B w v l m) (hm:m ≤ 900000000) :
  Calls Tryz.prog 142 #[I B 0] w fun e w'=>∃ y:Nat,e = yl (yi y)∧y < 18446744073709551616∧zW B w v l (m + 3) w':=by
 have HS:=Y h
 have hB:=src_lt h
 clear h
 have e1:=neg_zero
 have e2:=one_zero
 have e3:=less_zero
 have e4:=zero_zero
 go_enter Tryz.func142,Tryz.ntmps142
 go_wp2_with (first | (go_at_call 163; refine (zero_any _).mono ?_; rintro e w' ⟨rfl,rfl⟩) | (go_at_call 164; refine (copysign_any _).mono ?_; rintro e w' ⟨y0,rfl,jz,rfl⟩))
 have hn:=nanOf_lt w'
 generalize nanOf w' = n0 at *
 refine (pZ B v l m 15 _ (cA (bd (aP (U HS)) _) 1).1 (by omega) (by omega) (by omega)).mono ?_
 rintro e w1 ⟨y,rfl,hy0',kJ,hE⟩
 obtain ⟨k,rfl⟩:=Int.eq_ofNat_of_zero_le hy0'
 obtain ⟨z,uF,hz⟩:=float_row k n0 y0 w' 41 (by omega) hn jz
 have HE:=Y (show zW B w' v l (m + 3) w1 from ⟨hE.1,pY (pY (aI w' _ _) (gr_drewN _ 1 _)) hE.2⟩)
 have hc:=hE.2.cell (show (World.drewN _ 1).cell? _ = _ from hz) (by simp; omega)
 clear hE hz e1 e2 e3 e4
 go_wp2_with fail
 go_ret
 exact ⟨_,rfl,uF,U HE⟩
theorem zb {C:Nat} {w w':World} {b o:Nat} {cs:List Value} (h:w.rangeAt b o cs) (F:Below C w w') (hC:b < C):w'.rangeAt b o cs :=
 fun j v hv=>(F.cell (p:=(J b (o + j))) hC).trans (h j v hv)
theorem ze {C:Nat} {w w':World} {b o n:Nat} (h:w.there b o n) (F:Below C w w') (hC:b < C):w'.there b o n :=
 fun j R=>⟨by rw [F.cell (p:=(J b (o + j))) hC]; exact (h j R).1,by rw [F.frozen (p:=(J b (o + j))) hC]; exact (h j R).2⟩
theorem zp {xe:Option Nat} {w w':World} {b o:Nat} {cs:List Value} (h:w.rangeAt b o cs) (hg:w.grownBy w' xe) (F:b < w.heap.size) (xA:some b ≠ xe):w'.rangeAt b o cs :=
 fun j v hv=>(yO (a:=(J b (o + j))) (hg.block b F xA)).trans (h j v hv)
theorem zY {xe:Option Nat} {w w':World} {b o n:Nat} (h:w.there b o n) (hg:w.grownBy w' xe) (F:b < w.heap.size) (xA:some b ≠ xe):w'.there b o n :=
 fun j R=>⟨by rw [yO (a:=(J b (o + j))) (hg.block b F xA)]; exact (h j R).1,by rw [World.frozen?_of_block (a:=(J b (o + j))) (hg.block b F xA)]; exact (h j R).2⟩
theorem pX {w w':World} {B:Nat} {xe:Option Nat} (h:Below B w w') (hB:w.heap.size ≤ B):w.grownBy w' xe :=
 ⟨h.os,h.tape,h.output,h.size,fun k hk _=>h.block k (by omega)⟩
theorem gr_below' {w w':World} {xe:Option Nat} {B:Nat} (h:w.grownBy w' xe) (hG:∀ g,xe = some g→B ≤ g) (hs:B ≤ w.heap.size):Below B w w' :=
 ⟨h.os,h.tape,h.output,h.size,fun k hk=>h.block k (by omega) (fun e=>by have:=hG k e.symm; omega)⟩
section
variable {α:Type} (f:α→List Value) (sz:Nat)

def RdR (w:World) (v:Value) (l:List α):Prop :=
 ∃ (a:Option Addr) (E:Nat),v = .slice a l.length E∧l.length ≤ 1073741824 ∧
  (l ≠ []→∃ b off,a = some (J b off)∧b < w.heap.size∧∀ i c,l[i]? = some c→w.rangeAt b (off + i * sz) (f c))
def OwnR (B:Nat) (w:World) (v:Value) (l:List α):Prop :=
 ∃ (a:Option Addr) (E:Nat),v = .slice a l.length E∧l.length ≤ 1073741824 ∧
  (l ≠ []→∃ g,a = some (J g 0)∧B ≤ g∧g < w.heap.size∧(∀ i c,l[i]? = some c→w.rangeAt g (0 + i * sz) (f c))∧w.there g 0 (l.length * sz))
variable {f sz}

theorem ownR_rd {B:Nat} {w:World} {v:Value} {l:List α} (h:OwnR f sz B w v l):RdR f sz w v l:=by
 obtain ⟨a,E,rfl,hl,h⟩:=h
 refine ⟨a,E,rfl,hl,fun xA=>?_⟩
 obtain ⟨g,rfl,_,N,h3,_⟩:=h xA
 exact ⟨g,0,rfl,N,h3⟩
theorem zl {C:Nat} {w w':World} {v:Value} {l:List α} (h:RdR f sz w v l) (F:Below C w w') (hC:w.heap.size ≤ C):RdR f sz w' v l:=by
 obtain ⟨a,E,rfl,hl,h⟩:=h
 refine ⟨a,E,rfl,hl,fun xA=>?_⟩
 obtain ⟨b,off,rfl,Q,N⟩:=h xA
 exact ⟨b,off,rfl,yH Q F.size,fun i c hc=>zb (N i c hc) F (yH Q hC)⟩
theorem zm {B:Nat} {w:World} (b:Nat) (F:B ≤ b):∀ (vs:List Value) (o:Nat) (wr:World),Below B w wr→Below B w (wr.setCells b o vs)
 | [],_,_,h=>h
 | v :: r,o,wr,h=>by rw [World.setCells]; exact zm b F r (o + 1) _ (h.setCell (show B ≤ ((J b o):Addr).block from F) v)
theorem zZ (b:Nat):∀ (vs:List Value) (o:Nat) (wr:World),(wr.setCells b o vs).heap.size = wr.heap.size
 | [],_,_=>rfl
 | v :: r,o,wr=>by rw [World.setCells,zZ b r (o + 1)]; simp [World.setCell]
theorem bu {w:World} {g n t:Nat} {xp:Array Value} (hg:w.heap[g]? = some (.cells xp t (0,0))) (hn:n ≤ xp.size):w.there g 0 n:=fun j R =>
 ⟨by rw [cell_of_row w g (0 + j) xp t (0,0) hg,Array.getElem?_eq_getElem (by omega)]; rfl,by simp [World.frozen?,hg]⟩
theorem flat_get (hf:∀ c,(f c).length = sz):∀ (l:List α) (i j:Nat) (c:α),l[i]? = some c→j < sz→(l.flatMap f)[i * sz + j]? = (f c)[j]?
 | [],_,_,_,h,_=>by simp at h
 | a :: l,0,j,c,h,R=>by
  simp at h; subst h
  rw [List.flatMap_cons,List.getElem?_append_left (by rw [hf]; omega)]; simp
 | a :: l,i + 1,j,c,h,R=>by
  simp at h
  rw [List.flatMap_cons,List.getElem?_append_right (by rw [hf,Nat.add_mul]; omega),hf,← flat_get hf l i j c h R]
  congr 1
  rw [Nat.add_mul]; omega
theorem zH (hf:∀ c,(f c).length = sz):∀ (l:List α),(l.flatMap f).length = l.length * sz
 | []=>by simp
 | a :: l=>by rw [List.flatMap_cons,yN,hf,zH hf l,List.length_cons,Nat.add_mul]; omega
theorem bj {B e:Nat} {w:World} {v:Value} {l:List α} (hf:∀ c,(f c).length = sz) (hl:l.length ≤ 1073741824) (h:w.ownsRow B e sz v l.length (l.flatMap f)):OwnR f sz B w v l:=by
 rcases h.2 with ⟨rfl,h0⟩ | ⟨g,E,xp,rfl,F,hg,vO,_,hcur,htake⟩
 ·exact ⟨none,0,by rw [h0],hl,fun xA=>absurd (List.length_eq_zero_iff.1 h0) xA⟩
 ·have jo:=Nat.mul_le_mul_right sz vO
  refine ⟨_,E,rfl,hl,fun _=>⟨g,rfl,F,(yW.1 hg).1,fun i c hc j u hu=>?_,bu hg (by omega)⟩⟩
  have R:j < sz:=by rw [← hf c]; exact (yE.1 hu).1
  have N:=flat_get hf l i j c hc R
  have xH:i * sz + j < l.length * sz:=by
   have:=Nat.mul_le_mul_right sz (show i + 1 ≤ l.length from (yE.1 hc).1)
   rw [Nat.add_mul] at this; omega
  rw [← htake,List.getElem?_take,if_pos xH] at N
  rw [cell_of_row w g _ xp e (0,0) hg,Nat.zero_add]
  simpa using N.trans hu
end
structure Cm where
 k:Int
 s:Int
 t:Int
 l:Int
 q:Int
 i:Int
 p:Nat
 g:ByteArray
def Cm.vs (c:Cm):List Value:=(yv c.k c.s c.t c.l c.q c.i c.p c.g)
theorem Cm.len (c:Cm):c.vs.length = 8:=rfl
theorem cm_cells {w:World} {b o:Nat} {c:Cm} (h:w.rangeAt b o c.vs) :
  w.cell? (J b o) = some (H c.k)∧w.cell? (J b (o + 1)) = some (H c.s)∧w.cell? (J b (o + 2)) = some (H c.t)∧w.cell? (J b (o + 3)) = some (H c.l) ∧
  w.cell? (J b (o + 4)) = some (H c.q)∧w.cell? (J b (o + 5)) = some (H c.i)∧w.cell? (J b (o + 6)) = some (yi c.p)∧w.cell? (J b (o + 7)) = some (yj c.g) :=
 ⟨h 0 _ rfl,h 1 _ rfl,h 2 _ rfl,h 3 _ rfl,h 4 _ rfl,h 5 _ rfl,h 6 _ rfl,h 7 _ rfl⟩
theorem zD {w:World} {b o n:Nat} (h:w.there b o n) (j:Nat) (R:j < n):∃ v,w.cell? (J b (o + j)) = some v∧w.frozen? (J b (o + j)) = false:=by
 obtain ⟨v,hv⟩:=Option.isSome_iff_exists.1 (h j R).1
 exact ⟨v,hv,(h j R).2⟩
theorem sfl (a:Addr) (x:Nat) (m:Mode) (w:World):(store a (yi x) m).run Tryz.prog w = stored Tryz.prog w a (yi x) m:=run_store _ w a _ m rfl
structure Bx (W:World) (b:Nat) (vs:List Value):Prop where
 r:W.rangeAt b 0 vs
 t:W.there b 0 vs.length
theorem bF (w:World) (vs:List Value) (t:TypeId):Bx (w.alloc (Obj.cells vs.toArray t)) w.heap.size vs :=
 ⟨fun j u h=>by
  rw [cell_of_row _ w.heap.size (0 + j) vs.toArray t (0,0) (heap_alloc_new w _)]
  simpa using h,bu (heap_alloc_new w _) (by simp)⟩
theorem bx_below {C b:Nat} {W V:World} {vs:List Value} (h:Bx W b vs) (F:Below C W V) (hC:b < C):Bx V b vs:=⟨zb h.r F hC,ze h.t F hC⟩
theorem bx_cell {W:World} {b:Nat} {vs:List Value} (h:Bx W b vs) (j:Nat) {u:Value} (R:vs[j]? = some u):W.cell? (J b j) = some u:=by
 have:=h.r j u R; rwa [Nat.zero_add] at this
theorem yw {W:World} {b:Nat} {v0 v1 v2 v3 v4 v5 v6 v7 v8 v9 v10 v11 v12 v13:Value} (h:Bx W b [v0,v1,v2,v3,v4,v5,v6,v7,v8,v9,v10,v11,v12,v13]):W.cell? ⟨b,0,none⟩ = some v0∧W.cell? ⟨b,1,none⟩ = some v1∧W.cell? ⟨b,2,none⟩ = some v2∧W.cell? ⟨b,3,none⟩ = some v3∧W.cell? ⟨b,4,none⟩ = some v4∧W.cell? ⟨b,5,none⟩ = some v5∧W.cell? ⟨b,6,none⟩ = some v6∧W.cell? ⟨b,7,none⟩ = some v7∧W.cell? ⟨b,8,none⟩ = some v8∧W.cell? ⟨b,9,none⟩ = some v9∧W.cell? ⟨b,10,none⟩ = some v10∧W.cell? ⟨b,11,none⟩ = some v11∧W.cell? ⟨b,12,none⟩ = some v12∧W.cell? ⟨b,13,none⟩ = some v13:=⟨bx_cell h 0 rfl,bx_cell h 1 rfl,bx_cell h 2 rfl,bx_cell h 3 rfl,bx_cell h 4 rfl,bx_cell h 5 rfl,bx_cell h 6 rfl,bx_cell h 7 rfl,bx_cell h 8 rfl,bx_cell h 9 rfl,bx_cell h 10 rfl,bx_cell h 11 rfl,bx_cell h 12 rfl,bx_cell h 13 rfl⟩
theorem yx {W:World} {b:Nat} {v0 v1 v2 v3 v4 v5 v6 v7:Value} (h:Bx W b [v0,v1,v2,v3,v4,v5,v6,v7]):W.cell? ⟨b,0,none⟩ = some v0∧W.cell? ⟨b,1,none⟩ = some v1∧W.cell? ⟨b,2,none⟩ = some v2∧W.cell? ⟨b,3,none⟩ = some v3∧W.cell? ⟨b,4,none⟩ = some v4∧W.cell? ⟨b,5,none⟩ = some v5∧W.cell? ⟨b,6,none⟩ = some v6∧W.cell? ⟨b,7,none⟩ = some v7:=⟨bx_cell h 0 rfl,bx_cell h 1 rfl,bx_cell h 2 rfl,bx_cell h 3 rfl,bx_cell h 4 rfl,bx_cell h 5 rfl,bx_cell h 6 rfl,bx_cell h 7 rfl⟩
theorem yy {W:World} {b:Nat} {v0 v1 v2 v3 v4 v5:Value} (h:Bx W b [v0,v1,v2,v3,v4,v5]):W.cell? ⟨b,0,none⟩ = some v0∧W.cell? ⟨b,1,none⟩ = some v1∧W.cell? ⟨b,2,none⟩ = some v2∧W.cell? ⟨b,3,none⟩ = some v3∧W.cell? ⟨b,4,none⟩ = some v4∧W.cell? ⟨b,5,none⟩ = some v5:=⟨bx_cell h 0 rfl,bx_cell h 1 rfl,bx_cell h 2 rfl,bx_cell h 3 rfl,bx_cell h 4 rfl,bx_cell h 5 rfl⟩
theorem dt (w:World) (vs:List Value) (t:TypeId):Below w.heap.size w (w.alloc (Obj.cells vs.toArray t))∧Hid (Bx (w.alloc (Obj.cells vs.toArray t)) w.heap.size vs):=⟨(Below.refl _ _).alloc (Nat.le_refl _) _,bF w vs t⟩
theorem du (w:World) (vs:List Value) (t:TypeId):Hid (Below w.heap.size w (w.alloc (Obj.cells vs.toArray t)))∧Hid (Bx (w.alloc (Obj.cells vs.toArray t)) w.heap.size vs):=⟨(Below.refl _ _).alloc (Nat.le_refl _) _,bF w vs t⟩
theorem pick_any (B g n:Nat) (v:Value) (l:List Int) (m:Int) (ts:List ByteArray) (w:World) (h:Src B w v l m) (hm:m ≤ 1000000000) (hg:g ≠ B) (hn:ts.length = n) (Q:1 ≤ n) (N:n ≤ 256) (hr:∀ k s,ts[k]? = some s→w.cell? (J g k) = some (yj s)) :
  Calls Tryz.prog 104 #[I B 0,.slice (some (J g 0)) n n] w fun e w'=>∃ s,e = yl (yj s)∧s ∈ ts∧zW B w v l (m + 3) w':=by
 have HS:=Y h
 have HR:=Y hr
 have F:((n:Int) == 0) = false:=by simp; omega
 clear h hr
 go_enter Tryz.func104,Tryz.ntmps104
 go_wp2_with fail
 refine (pZ B v l m n _ (U HS) hm (by omega) (by omega)).mono ?_
 rintro e w1 ⟨y,rfl,jz,kJ,hE⟩
 obtain ⟨k,rfl⟩:=Int.eq_ofNat_of_zero_le jz
 have HE:=Y hE
 have hk:k < n:=by omega
 obtain ⟨s,hs⟩:∃ s,ts[k]? = some s:=⟨_,yF (by omega)⟩
 have hc:=hE.2.cell (U HR k s hs) (fun e=>hg (Option.some.inj e))
 have HSS:=Y (yM hs)
 clear hE hs
 go_wp2_with fail
 go_ret
 exact ⟨s,rfl,U HSS,U HE⟩
def tags8:List ByteArray:=[⟨#[]⟩,⟨#[97]⟩,⟨#[100,101,115,107,32,55]⟩,⟨#[49,50,51,52,53,54,55,56,57,48,49,50]⟩,⟨#[49,50,51,52,53,54,55,56,57,48,49,50,51]⟩,⟨#[49,50,51,52,53,54,55,56,57,48,49,50,51,52,53,54,55,56,57,48]⟩,⟨#[195,169]⟩,⟨#[120,10]⟩]
theorem tags8_len:∀ s ∈ tags8,s.size ≤ 20:=by decide +kernel
theorem tag_drawn (B:Nat) (v:Value) (l:List Int) (m:Int) (w:World) (h:Src B w v l m) (hm:m ≤ 1000000000) :
  Calls Tryz.prog 143 #[I B 0] w fun e w'=>∃ s,e = yl (yj s)∧s.size ≤ 20∧zW B w v l (m + 3) w':=by
 have HS:=Y h
 have hB:=src_lt h
 clear h
 have HX:=Y (bF w (tags8.map .string) 9)
 go_enter Tryz.func143,Tryz.ntmps143
 go_wp2_with fail
 refine (pick_any B w.heap.size 8 v l m tags8 _ (bd (aP (U HS)) _).1 hm (by omega) rfl (by omega) (by omega) (fun k s hs=>bx_cell (U HX) k (by rw [List.getElem?_map,hs]; rfl))).mono ?_
 rintro e w1 ⟨s,rfl,hs,hE⟩
 have HL:=Y (tags8_len s hs)
 have HE:=Y (show zW B w v l (m + 3) w1 from ⟨hE.1,pY (aI w _ _) hE.2⟩)
 clear hE hs HX
 go_wp2_with fail
 go_ret
 exact ⟨s,rfl,U HL,U HE⟩
structure DrC (B b:Nat) (w:World) (v:Value) (l:List Int) (m:Int) (W:World):Prop where
 e:zW B w v l m W
 t:W.there b 0 8
theorem aB {B:Nat} {w W W':World} {v:Value} {l:List Int} {m m':Int} (h:DrC B w.heap.size w v l m W) (hB:B < w.heap.size) (h':zW B W v l m' W') (hW:w.heap.size < W.heap.size):DrC B w.heap.size w v l m' W' :=
 ⟨⟨h'.1,pY h.e.2 h'.2⟩,zY h.t h'.2 hW (fun e=>by have:=Option.some.inj e; omega)⟩
theorem src_far {B:Nat} {w:World} {v:Value} {l:List Int} {m:Int} (h:Src B w v l m):l ≠ []→∃ k,v.ownBlock = some k∧k < w.heap.size:=fun xA=>by
 obtain ⟨a,E,rfl,hl,hc⟩:=h.rd
 obtain ⟨b,off,rfl,xo⟩:=hc xA
 exact ⟨b,rfl,yI w _ (xo 0 (List.length_pos_iff.2 xA))⟩
theorem src_keep {B:Nat} {w w':World} {v:Value} {l:List Int} {m:Int} {xe:Option Nat} (h:Src B w v l m) (hg:w.grownBy w' xe) (hB:some B ≠ xe) (hv:l ≠ []→v.ownBlock ≠ xe):Src B w' v l m:=by
 have F:=hg.block B (src_lt h) hB
 obtain ⟨a,s,k1,k2,k3,k4,k5,k6⟩:=h.cells
 have e:∀ i,w'.cell? (J B i) = w.cell? (J B i):=fun i=>yO (a:=(J B i)) F
 have f:∀ i,w'.frozen? (J B i) = w.frozen? (J B i):=fun i=>World.frozen?_of_block (a:=(J B i)) F
 refine ⟨?_,h.ne,h.bts,(e 0).trans h.code,⟨a,s,k1,k2,k3,k4,(e 1).trans k5,(e 2).trans k6⟩,(f 1).trans h.free1,(f 2).trans h.free2⟩
 obtain ⟨a,E,rfl,hl,hc⟩:=h.rd
 refine ⟨a,E,rfl,hl,fun xA=>?_⟩
 obtain ⟨b,off,rfl,xo⟩:=hc xA
 exact ⟨b,off,rfl,fun i hi=>(yO (a:=(J b (off + i))) (hg.block b (yI w _ (xo i hi)) (hv xA))).trans (xo i hi)⟩
theorem gr_setsD (b:Nat):∀ (vs:List Value) (o:Nat) (w:World),w.grownBy (w.setCells b o vs) (some b)
 | [],o,w=>by rw [World.setCells]; exact yP _ _
 | v :: vs,o,w=>by rw [World.setCells]; exact pY (gr_set w (J b o) v) (gr_setsD b vs (o + 1) _)
theorem bD {B b o:Nat} {w W:World} {v:Value} {l:List Int} {m:Int} (hv:l ≠ []→∃ k,v.ownBlock = some k∧k < w.heap.size) (h:zW B w v l m W) (hB:B < w.heap.size) (F:w.heap.size ≤ b) (vs:List Value):zW B w v l m (W.setCells b o vs):=by
 have g:=gr_setsD b vs o W
 refine ⟨src_keep h.1 g (fun e=>by have:=Option.some.inj e; omega) (fun xA e=>?_),?_⟩
 ·obtain ⟨k,Q,N⟩:=hv xA
  rw [Q] at e
  have:=Option.some.inj e
  omega
 ·exact ⟨g.os.trans h.2.os,g.tape.trans h.2.tape,g.output.trans h.2.output,yL h.2.size g.size,fun k hk xA=>(g.block k (yH hk h.2.size) (fun e=>by have:=Option.some.inj e; omega)).trans (h.2.block k hk xA)⟩
theorem rawCmd_drawn (B:Nat) (v:Value) (l:List Int) (m:Int) (w:World) (h:Src B w v l m) (hm:m ≤ 800000000) :
  Calls Tryz.prog 103 #[I B 0] w fun e w'=>∃ c:Cm,e = yl (.agg c.vs.toArray)∧c.g.size ≤ 20∧zW B w v l (m + 30) w':=by
 have HV:=Y (src_far h)
 have hB:=src_lt h
 have kU:Hid (DrC B w.heap.size w v l m (w.alloc (D (yv 0 0 0 0 0 0 0 ⟨#[]⟩).toArray 43))):=⟨bd (aP h) _,(bF w (yv 0 0 0 0 0 0 0 ⟨#[]⟩) 43).t⟩
 have hs0:w.heap.size < (w.alloc (D (yv 0 0 0 0 0 0 0 ⟨#[]⟩).toArray 43)).heap.size:=by simp
 clear h
 go_enter Tryz.func103,Tryz.ntmps103
 go_wp2_with fail
 generalize (w.alloc (D (yv 0 0 0 0 0 0 0 ⟨#[]⟩).toArray 43)) = W0 at kU hs0 ⊢
 refine (pZ B v l (m) 6 W0 (U kU).e.1 (by omega) (by omega) (by omega)).mono ?_
 rintro e W1 ⟨y1,rfl,-,-,hE⟩
 have qP:=Y (aB (U kU) hB hE hs0)
 have xy:w.heap.size < W1.heap.size:=yH hs0 hE.2.size
 clear hE kU hs0
 go_wp2_with fail
 refine (pZ B v l (m + 3) 4 W1 (U qP).e.1 (by omega) (by omega) (by omega)).mono ?_
 rintro e W2 ⟨y2,rfl,-,-,hE⟩
 have oP:=Y (aB (U qP) hB hE xy)
 have xY:w.heap.size < W2.heap.size:=yH xy hE.2.size
 clear hE qP xy
 go_wp2_with fail
 refine (pZ B v l (m + 3 + 3) 7 W2 (U oP).e.1 (by omega) (by omega) (by omega)).mono ?_
 rintro e W3 ⟨y3,rfl,-,-,hE⟩
 have HD3:=Y (aB (U oP) hB hE xY)
 have jg:w.heap.size < W3.heap.size:=yH xY hE.2.size
 clear hE oP xY
 go_wp2_with fail
 refine (pZ B v l (m + 3 + 3 + 3) 3 W3 (U HD3).e.1 (by omega) (by omega) (by omega)).mono ?_
 rintro e W4 ⟨y4,rfl,-,-,hE⟩
 have HD4:=Y (aB (U HD3) hB hE jg)
 have hs4:w.heap.size < W4.heap.size:=yH jg hE.2.size
 clear hE HD3 jg
 go_wp2_with fail
 refine (number_drawn B v l (m + 3 + 3 + 3 + 3) W4 (U HD4).e.1 (by omega)).mono ?_
 rintro e W5 ⟨y5,rfl,-,-,hE⟩
 have HD5:=Y (aB (U HD4) hB hE hs4)
 have hs5:w.heap.size < W5.heap.size:=yH hs4 hE.2.size
 clear hE HD4 hs4
 go_wp2_with fail
 refine (pZ B v l (m + 3 + 3 + 3 + 3 + 6) 3 W5 (U HD5).e.1 (by omega) (by omega) (by omega)).mono ?_
 rintro e W6 ⟨y6,rfl,-,-,hE⟩
 have HD6:=Y (aB (U HD5) hB hE hs5)
 have hs6:w.heap.size < W6.heap.size:=yH hs5 hE.2.size
 clear hE HD5 hs5
 go_wp2_with fail
 refine (float_drawn B v l (m + 3 + 3 + 3 + 3 + 6 + 3) W6 (U HD6).e.1 (by omega)).mono ?_
 rintro e W7 ⟨y7,rfl,-,hE⟩
 have HD7:=Y (aB (U HD6) hB hE hs6)
 have hs7:w.heap.size < W7.heap.size:=yH hs6 hE.2.size
 clear hE HD6 hs6
 go_wp2_with fail
 refine (tag_drawn B v l (m + 3 + 3 + 3 + 3 + 6 + 3 + 3) W7 (U HD7).e.1 (by omega)).mono ?_
 rintro e W8 ⟨y8,rfl,hy8,hE⟩
 have HD8:=Y (aB (U HD7) hB hE hs7)
 have hs8:w.heap.size < W8.heap.size:=yH hs7 hE.2.size
 clear hE HD7 hs7
 have jx:=Y (U HD8).t
 have uL:Hid ((W8.setCells w.heap.size 0 (yv y1 y2 y3 y4 y5 y6 y7 y8)).rangeAt w.heap.size 0 (yv y1 y2 y3 y4 y5 y6 y7 y8)):=yV _ _ _ _ (U HD8).t
 have qQ:Hid (zW B w v l (m + 3 + 3 + 3 + 3 + 6 + 3 + 3 + 3) (W8.setCells w.heap.size 0 (yv y1 y2 y3 y4 y5 y6 y7 y8))):=bD (U HV) (U HD8).e hB qt _
 try dsimp only
 rename_i K1 pf K2 qH
 refine qH _ _ ?_
 have xq:=Y pf
 clear pf qH
 refine wpList_step fun K3 vJ=>?_
 have vp:=Y vJ
 clear vJ
 rw [if_pos (by rfl)];unfold Oper.wp;go_simp
 refine U vp _ _ ?_
 clear vp
 refine wpList_store_mid rfl 43 (.tmp 2) (.tmp 19) rfl w.heap.size 0 (yv y1 y2 y3 y4 y5 y6 y7 y8).toArray rfl rfl (U jx) (by kernel_rfl) (by simp [Value.oneCell']) ?_
 change wpList _ _ _ _ _ (W8.setCells w.heap.size 0 (yv y1 y2 y3 y4 y5 y6 y7 y8))
 generalize W8.setCells w.heap.size 0 (yv y1 y2 y3 y4 y5 y6 y7 y8) = WF at uL qQ ⊢
 have pf:=U xq
 go_wp2_with fail
 have d0:=U uL 0 _ rfl
 have d1:=U uL 1 _ rfl
 have d2:=U uL 2 _ rfl
 have d3:=U uL 3 _ rfl
 have d4:=U uL 4 _ rfl
 have d5:=U uL 5 _ rfl
 have d6:=U uL 6 _ rfl
 have d7:=U uL 7 _ rfl
 simp only [Nat.zero_add] at d0 d1 d2 d3 d4 d5 d6 d7
 refine bodyPost_ret (by simp [results,Tryz.results103,go_sem,d0,d1,d2,d3,d4,d5,d6,d7]; try rfl) rfl ?_
 exact ⟨⟨y1,y2,y3,y4,y5,y6,y7,y8⟩,rfl,hy8,aC (U qQ).1 (by omega),(U qQ).2⟩
end Go.Proofs.YtbakanofkghmiaaGreat
