/-
  The source of drawn things, proved by walking its methods: each returns some number in its range, and writes its own block alone.
-/
import Derived.Test.YtbakanofkghmiaaGreatWj02
import Derived.Deep.RegionWith
set_option linter.unusedVariables false
set_option maxHeartbeats 6400000
set_option maxRecDepth 100000
namespace Go.Proofs.YtbakanofkghmiaaGreat
open Go.RowKit
theorem rd_grown {w w':World} {v:Value} {l:List Int} {B:Nat} (h:Rd w v l) (hg:w.grownBy w' (some B)) (hB:l ≠ []→v.ownBlock ≠ some B):Rd w' v l:=by
 obtain ⟨a,A,rfl,hl,hc⟩:=h
 refine ⟨a,A,rfl,hl,fun xB=>?_⟩
 obtain ⟨b,off,rfl,xq⟩:=hc xB
 have F:some b ≠ some B:=fun e=>hB xB (by simpa [Value.ownBlock] using e)
 exact ⟨b,off,rfl,fun i hi=>(yQ (a:=(J b (off + i))) (hg.block b (yK w _ (xq i hi)) F)).trans (xq i hi)⟩
structure Src (B:Nat) (w:World) (v:Value) (l:List Int) (m:Int):Prop where
 rd:Rd w v l
 ne:l ≠ []→v.ownBlock ≠ some B
 bts:Bts l
 code:w.cell? ⟨B,0,none⟩ = some v
 cells:∃ at_ seed:Int,0 ≤ at_∧at_ ≤ m∧0 ≤ seed∧seed < 2147483648∧w.cell? ⟨B,1,none⟩ = some (.int .i64 at_)∧w.cell? ⟨B,2,none⟩ = some (.int .i64 seed)
 free1:w.frozen? ⟨B,1,none⟩ = false
 free2:w.frozen? ⟨B,2,none⟩ = false
def bH (B:Nat) (w:World) (v:Value) (l:List Int) (m:Int) (w':World):Prop:=Src B w' v l m∧w.grownBy w' (some B)
theorem src_refl {B:Nat} {w:World} {v:Value} {l:List Int} {m:Int} (h:Src B w v l m):bH B w v l m w:=⟨h,yR _ _⟩
theorem src_drew {B:Nat} {w0 w:World} {v:Value} {l:List Int} {m:Int} (h:bH B w0 v l m w) (q:Nat):bH B w0 v l m (w.drewN q) :=
 ⟨⟨h.1.rd,h.1.ne,h.1.bts,h.1.code,h.1.cells,h.1.free1,h.1.free2⟩,zY h.2 (gr_drewN _ q _)⟩
theorem src_at {B:Nat} {w0 w:World} {v:Value} {l:List Int} {m:Int} (h:bH B w0 v l m w) (a:Int) (h0:0 ≤ a) (ha:a ≤ m + 1):bH B w0 v l (m + 1) (w.setCell (J B 1) (H a)):=by
 obtain ⟨h,hg⟩:=h
 obtain ⟨at0,s0,_,_,k2,k3,G,E⟩:=h.cells
 have g:=gr_set w (J B 1) (H a)
 exact ⟨⟨rd_grown h.rd g h.ne,h.ne,h.bts,(yL _ _ _ _ (zP (by omega))).trans h.code,
  ⟨a,s0,h0,ha,k2,k3,yM _ _ _ G,(yL _ _ _ _ (zP (by omega))).trans E⟩,
  (World.frozen?_setCell _ _ _ _).trans h.free1,(World.frozen?_setCell _ _ _ _).trans h.free2⟩,zY hg g⟩
theorem src_seed {B:Nat} {w0 w:World} {v:Value} {l:List Int} {m:Int} (h:bH B w0 v l m w) (s:Int) (h0:0 ≤ s) (hs:s < 2147483648):bH B w0 v l m (w.setCell (J B 2) (H s)):=by
 obtain ⟨h,hg⟩:=h
 obtain ⟨at0,s0,k0,k1,_,_,G,E⟩:=h.cells
 have g:=gr_set w (J B 2) (H s)
 exact ⟨⟨rd_grown h.rd g h.ne,h.ne,h.bts,(yL _ _ _ _ (zP (by omega))).trans h.code,
  ⟨at0,s,k0,k1,h0,hs,(yL _ _ _ _ (zP (by omega))).trans G,yM _ _ _ E⟩,
  (World.frozen?_setCell _ _ _ _).trans h.free1,(World.frozen?_setCell _ _ _ _).trans h.free2⟩,zY hg g⟩
theorem src_step {B:Nat} {w w1:World} {v:Value} {l:List Int} {m at_ seed:Int} (h:Src B w v l m) (h0:0 ≤ at_) (ha:at_ ≤ m) (c1:w.cell? (J B 1) = some (H at_)) (c2:w.cell? (J B 2) = some (H seed))
  (hw:w.setCell (J B 1) (H (at_ + 1)) = w1) :
  bH B w v l (m + 1) w1∧w1.cell? (J B 0) = some v∧w1.cell? (J B 1) = some (H (at_ + 1))∧w1.cell? (J B 2) = some (H seed)∧w1.frozen? (J B 2) = false∧Rd w1 v l:=by
 subst hw
 have k:=src_at (src_refl h) (at_ + 1) (by omega) (by omega)
 exact ⟨k,k.1.code,yM _ _ _ c1,(yL _ _ _ _ (zP (by omega))).trans c2,k.1.free2,k.1.rd⟩
theorem seed_step {B:Nat} {w0 w1 w2:World} {v:Value} {l:List Int} {m at_ s:Int} (h:bH B w0 v l m w1) (d1:w1.cell? (J B 1) = some (H at_)) (h0:0 ≤ s) (hs:s < 2147483648)
  (hw:w1.setCell (J B 2) (H s) = w2) :
  bH B w0 v l m w2∧w2.cell? (J B 0) = some v∧w2.cell? (J B 1) = some (H at_)∧w2.cell? (J B 2) = some (H s)∧Rd w2 v l:=by
 subst hw
 obtain ⟨_,_,_,_,_,_,_,k⟩:=h.1.cells
 have g:=src_seed h s h0 hs
 exact ⟨g,g.1.code,(yL _ _ _ _ (zP (by omega))).trans d1,yM _ _ _ k,g.1.rd⟩
structure Sr where
 at_:Int
 seed:Int
def byF (l:List Int) (s:Sr):Int × Sr :=
 if s.at_ + 1 ≤ l.length then (l.getD s.at_.toNat 0,⟨s.at_ + 1,(s.seed * 31 + l.getD s.at_.toNat 0 + 7) % 2147483648⟩)
 else if 3000 < s.at_ + 1 then (0,⟨s.at_ + 1,s.seed⟩)
 else ((s.seed * 1103515245 + 12345) % 2147483648 / 65536 % 256,⟨s.at_ + 1,(s.seed * 1103515245 + 12345) % 2147483648⟩)
def nxF (l:List Int) (n:Int) (s:Sr):Int × Sr :=
 if n ≤ 1 then (0,s) else if n ≤ 256 then ((byF l s).1 % n,(byF l s).2)
 else (((byF l s).1 * 65536 + (byF l (byF l s).2).1 * 256 + (byF l (byF l (byF l s).2).2).1) % n,(byF l (byF l (byF l s).2).2).2)
structure SrX (B:Nat) (w:World) (v:Value) (l:List Int) (s:Sr):Prop where
 src:Src B w v l s.at_
 a0:0 ≤ s.at_
 s0:0 ≤ s.seed
 s1:s.seed < 2147483648
 c1:w.cell? ⟨B,1,none⟩ = some (.int .i64 s.at_)
 c2:w.cell? ⟨B,2,none⟩ = some (.int .i64 s.seed)
def SrXE (B:Nat) (w:World) (v:Value) (l:List Int) (s:Sr) (w':World):Prop:=SrX B w' v l s∧w.grownBy w' (some B)
theorem srX_drew {B:Nat} {w0 w:World} {v:Value} {l:List Int} {s:Sr} (h:SrXE B w0 v l s w) (q:Nat):SrXE B w0 v l s (w.drewN q) :=
 ⟨⟨(src_drew (src_refl h.1.src) q).1,h.1.a0,h.1.s0,h.1.s1,h.1.c1,h.1.c2⟩,zY h.2 (gr_drewN _ q _)⟩
set_option maxRecDepth 100000 in
set_option maxHeartbeats 1600000 in
theorem byte_ex (B:Nat) (v:Value) (l:List Int) (s:Sr) (w:World) (h:SrX B w v l s) (hm:s.at_ ≤ 1073741824) :
  Calls Tryz.prog 102 #[.pointer (some ⟨B,0,none⟩)] w fun e w'=>e = .returned (.int .i64 (byF l s).1)∧SrXE B w v l (byF l s).2 w':=by
 obtain ⟨at_,seed⟩:=s
 obtain ⟨hS,ha0,oZ,hs,c1,c2⟩:=h
 simp only at hS ha0 oZ hs c1 c2 hm
 have HS:=hide hS
 obtain ⟨xP,xB,hbts,hcode,-,f1,f2⟩:=hS
 have uK:=hide (fun w1 h=>src_step (w1:=w1) (U HS) ha0 (Int.le_refl _) c1 c2 h)
 obtain ⟨a,A,rfl,hl,hc⟩:=xP
 have HB:=hide hbts
 clear hbts hc c2 f2 xB
 have ox:=hide (byF.eq_1 l ⟨at_,seed⟩)
 simp only at ox
 generalize byF l ⟨at_,seed⟩ = R at ox ⊢
 go_enter Tryz.func102,Tryz.ntmps102
 go_wp2_with fail
 generalize hw1:w.setCell ⟨B,1,none⟩ (.int .i64 (at_ + 1)) = w1
 obtain ⟨hE,d0,d1,d2,g2,hrd1⟩:=U uK w1 hw1
 have HE:=hide hE
 have jJ:Hid (SrXE B w (.slice a l.length A) l ⟨at_ + 1,seed⟩ w1):=⟨⟨hE.1,by show 0 ≤ at_ + 1; omega,oZ,hs,d1,d2⟩,hE.2⟩
 obtain ⟨a',pI,e',_,hc⟩:=hrd1
 simp only [Value.slice.injEq,true_and] at e'
 obtain ⟨rfl,rfl⟩:=e'
 clear hE uK hw1 c1 f1 hcode
 by_cases G:at_ + 1 ≤ l.length
 ·rw [if_pos G] at ox
  have hc':=hc (by intro e; subst e; simp at G; omega)
  obtain ⟨b,off,rfl,xq⟩:=hc'
  obtain ⟨k,rfl⟩:=Int.eq_ofNat_of_zero_le ha0
  simp only [Int.toNat_natCast] at ox
  have hck:=xq k (by omega)
  have hbk:=bts_get (U HB) k
  generalize hx:l.getD k 0 = x at *
  have HX:=hide hx
  clear hx
  obtain ⟨hx0,hx1⟩:=hbk
  have h1'':(k:Int) < l.length:=by omega
  clear hc xq
  go_quiet (fail)
  go_wp2_with fail
  have hd:Rd w1 (.slice (some ⟨b,off,none⟩) l.length A) l:=(U HE).1.rd
  go_region
  all_goals
   generalize hw2:(w1.drewN _).setCell ⟨B,2,none⟩ (.int .i64 ((seed * 31 + x + 7) % 2147483648)) = w2
   obtain ⟨hE2,t0,t1,t2,hrd2⟩:=seed_step (src_drew (U HE) _) d1 (by omega) (by omega) hw2
   have HX2:Hid (SrXE B w (.slice (some ⟨b,off,none⟩) l.length A) l ⟨(k:Int) + 1,(seed * 31 + x + 7) % 2147483648⟩ w2):=⟨⟨hE2.1,by show (0:Int) ≤ k + 1; omega,by show 0 ≤ (seed * 31 + x + 7) % 2147483648; omega,by show (seed * 31 + x + 7) % 2147483648 < 2147483648; omega,t1,t2⟩,hE2.2⟩
   obtain ⟨a2,cap2,e2,_,hc2⟩:=hrd2
   obtain ⟨b2,off2,e3,hc3⟩:=hc2 (by intro e; subst e; simp at h1''; omega)
   simp only [Value.slice.injEq,true_and] at e2
   obtain ⟨rfl,rfl⟩:=e2
   simp only [Option.some.injEq,Addr.mk.injEq,and_true] at e3
   obtain ⟨rfl,rfl⟩:=e3
   have tck:=hc3 k (by omega)
   have hx:l.getD k 0 = x:=U HX
   rw [hx] at tck
   clear hE2 hc2 hc3 hw2 d0 d1 d2 hck hx hd
   go_wp2_with fail
   go_quiet (fail)
   go_wp2_with fail
   go_ret
   rw [U ox]
   exact ⟨rfl,srX_drew (U HX2) _⟩
 ·rw [if_neg G] at ox
  have kS:(l.length:Int) < at_ + 1:=by omega
  clear hc
  by_cases E:3000 < at_ + 1
  ·rw [if_pos E] at ox
   go_quiet (fail)
   go_wp2_with fail
   go_ret
   rw [U ox]
   exact ⟨rfl,srX_drew (U jJ) _⟩
  ·rw [if_neg E] at ox
   have pl:Hid (∀ q,SrXE B w (.slice a l.length A) l ⟨at_ + 1,(seed * 1103515245 + 12345) % 2147483648⟩ ((w1.drewN q).setCell ⟨B,2,none⟩ (.int .i64 ((seed * 1103515245 + 12345) % 2147483648)))):=fun q=>by
    obtain ⟨hE2,t0,t1,t2,-⟩:=seed_step (src_drew (U HE) q) d1 (s:=(seed * 1103515245 + 12345) % 2147483648) (by omega) (by omega) rfl
    exact ⟨⟨hE2.1,by show 0 ≤ at_ + 1; omega,by show 0 ≤ (seed * 1103515245 + 12345) % 2147483648; omega,by show (seed * 1103515245 + 12345) % 2147483648 < 2147483648; omega,t1,t2⟩,hE2.2⟩
   go_quiet (fail)
   go_wp2_with fail
   go_ret
   rw [U ox]
   exact ⟨rfl,U pl _⟩

theorem bN (w:World) (o:Obj) (row:Option Nat):w.grownBy (w.alloc o) row :=
 ⟨rfl,rfl,rfl,by simp,fun k hk _=>((Below.refl _ w).alloc qt o).block k hk⟩
theorem cn {B:Nat} {w:World} {v:Value} {l:List Int} {m:Int} (h:Src B w v l m):B < w.heap.size:=yK w _ h.code
theorem src_alloc {B:Nat} {w0 w:World} {v:Value} {l:List Int} {m:Int} (h:bH B w0 v l m w) (o:Obj):bH B w0 v l m (w.alloc o):=by
 have hB:=cn h.1
 obtain ⟨a,s,k1,k2,k3,k4,k5,k6⟩:=h.1.cells
 have e:∀ i,(w.alloc o).cell? (J B i) = w.cell? (J B i):=fun i=>yV _ _ (J B i) hB
 have f:∀ i,(w.alloc o).frozen? (J B i) = w.frozen? (J B i):=fun i=>World.frozen?_of_block (a:=(J B i)) ((bN w o none).block B hB (by simp))
 exact ⟨⟨rd_grown h.1.rd (bN w o _) h.1.ne,h.1.ne,h.1.bts,(e 0).trans h.1.code,⟨a,s,k1,k2,k3,k4,(e 1).trans k5,(e 2).trans k6⟩,(f 1).trans h.1.free1,(f 2).trans h.1.free2⟩,zY h.2 (bN w o _)⟩
theorem rd_new {w:World} {v:Value} {l:List Int} (h:Rd w v l) (xB:l ≠ []):v.ownBlock ≠ some w.heap.size:=by
 obtain ⟨a,A,rfl,_,hc⟩:=h
 obtain ⟨b,off,rfl,xq⟩:=hc xB
 have:=yK w _ (xq 0 (List.length_pos_iff.2 xB))
 simp only [Value.ownBlock,ne_eq,Option.some.injEq]
 intro e
 simp only at this
 omega
theorem own_below_grown {w w1 w':World} {B:Nat} (G:yn w w1) (hB:w.heap.size ≤ B) (E:w1.grownBy w' (some B)):yn w w' :=
 G.trans (gr_below E hB G.size)

theorem sub_one (W:World):(binOp .sub 41 (yj 4607182418800017408) (yj 4607182418800017408)).run Tryz.prog W = .ok (yj 0) W:=by
 have h:FloatKind.f64.format.sub 4607182418800017408 4607182418800017408 = some 0:=by kernel_rfl
 simp [binOp,Op.floatArith,h]
theorem neg_zero (W:World):(Op.unary .neg (yj 0)).run Tryz.prog W = .ok (yj 9223372036854775808) W:=by
 kernel_rfl
theorem one_zero (W:World):(binOp .quo 41 (yj 4607182418800017408) (yj 0)).run Tryz.prog W = .ok (yj 9218868437227405312) W:=by
 have h:FloatKind.f64.format.div 4607182418800017408 0 = some 9218868437227405312:=by kernel_rfl
 simp [binOp,Op.floatArith,h]
theorem less_zero (W:World):(binOp .quo 41 (yj 13830554455654793216) (yj 0)).run Tryz.prog W = .ok (yj 18442240474082181120) W:=by
 have h:FloatKind.f64.format.div 13830554455654793216 0 = some 18442240474082181120:=by kernel_rfl
 simp [binOp,Op.floatArith,h]
def nanOf (W:World):Nat:=(Question.nanBits .f64 0 0).cut (W.tape W.drawn (.nanBits .f64 0 0))
theorem zero_zero (W:World):(binOp .quo 41 (yj 0) (yj 0)).run Tryz.prog W = .ok (yj (nanOf W)) W.drew:=by
 have h:FloatKind.f64.format.div 0 0 = none:=by kernel_rfl
 simp [binOp,Op.floatArith,h,nanOf,choose]
 rfl
theorem zero_any (w:World):Calls Tryz.prog 163 #[] w fun e w'=>e = ym (yj 0)∧w' = w:=by
 have h:=sub_one
 go_enter Tryz.func163,Tryz.ntmps163
 go_wp2_with fail
 go_ret
 exact ⟨rfl,rfl⟩
theorem frombitsS (n:Int) (w:World):(callFunc 169 #[.int .u64 n]).run Tryz.prog w = .ok (.value (yj n.toNat)) w:=by
 rw [run_callFunc_extern (e:=Extern.MathFloatBits.float64frombits) Tryz.func169 (by kernel_rfl) (by kernel_rfl) (by kernel_rfl) (by kernel_rfl)]
 rfl
structure Bx (W:World) (b:Nat) (vs:List Value):Prop where
 r:W.rangeAt b 0 vs
 t:W.there b 0 vs.length
theorem aY (w:World) (vs:List Value) (t:TypeId):Bx (w.alloc (Obj.cells vs.toArray t)) w.heap.size vs :=
 ⟨fun j u h=>by
  rw [cell_of_row _ w.heap.size (0 + j) vs.toArray t (0,0) (heap_alloc_new w _)]
  simpa using h,cS (heap_alloc_new w _) (by simp)⟩
theorem bM {C b:Nat} {W V:World} {vs:List Value} (h:Bx W b vs) (F:Below C W V) (hC:b < C):Bx V b vs:=⟨zb h.r F hC,zg h.t F hC⟩
theorem zJ {W:World} {b:Nat} {vs:List Value} (h:Bx W b vs) (j:Nat) {u:Value} (K:vs[j]? = some u):W.cell? (J b j) = some u:=by
 have:=h.r j u K; rwa [Nat.zero_add] at this
theorem bx_free {W:World} {b:Nat} {vs:List Value} (h:Bx W b vs) (j:Nat) (K:j < vs.length):W.frozen? (J b j) = false:=by
 have:=(h.t j K).2; rwa [Nat.zero_add] at this
theorem bx_set {W:World} {b j:Nat} {vs:List Value} {u:Value} (h:Bx W b vs) (K:j < vs.length):Bx (W.setCell (J b j) u) b (vs.set j u):=by
 refine ⟨fun i v hi=>?_,by rw [List.length_set]; exact xb (vs:=[u]) h.t b j⟩
 rw [Nat.zero_add]
 by_cases kV:j = i
 ·subst kV
  rw [List.getElem?_set_self K] at hi
  cases hi
  have:=h.r j _ (yH K)
  rw [Nat.zero_add] at this
  exact yM _ _ _ this
 ·rw [yW kV] at hi
  have:=h.r i v hi
  rw [Nat.zero_add] at this
  rw [yL _ _ _ _ (zP kV)]
  exact this
theorem bx_drewN {W:World} {b:Nat} {vs:List Value} (h:Bx W b vs) (n:Nat):Bx (W.drewN n) b vs:=⟨h.r,h.t⟩
theorem bx_drew {W:World} {b:Nat} {vs:List Value} (h:Bx W b vs):Bx W.drew b vs:=⟨h.r,h.t⟩
theorem yx {W:World} {b:Nat} {v0 v1 v2 v3 v4 v5 v6 v7 v8 v9 v10 v11 v12 v13:Value} (h:Bx W b [v0,v1,v2,v3,v4,v5,v6,v7,v8,v9,v10,v11,v12,v13]):W.cell? ⟨b,0,none⟩ = some v0∧W.cell? ⟨b,1,none⟩ = some v1∧W.cell? ⟨b,2,none⟩ = some v2∧W.cell? ⟨b,3,none⟩ = some v3∧W.cell? ⟨b,4,none⟩ = some v4∧W.cell? ⟨b,5,none⟩ = some v5∧W.cell? ⟨b,6,none⟩ = some v6∧W.cell? ⟨b,7,none⟩ = some v7∧W.cell? ⟨b,8,none⟩ = some v8∧W.cell? ⟨b,9,none⟩ = some v9∧W.cell? ⟨b,10,none⟩ = some v10∧W.cell? ⟨b,11,none⟩ = some v11∧W.cell? ⟨b,12,none⟩ = some v12∧W.cell? ⟨b,13,none⟩ = some v13:=⟨zJ h 0 rfl,zJ h 1 rfl,zJ h 2 rfl,zJ h 3 rfl,zJ h 4 rfl,zJ h 5 rfl,zJ h 6 rfl,zJ h 7 rfl,zJ h 8 rfl,zJ h 9 rfl,zJ h 10 rfl,zJ h 11 rfl,zJ h 12 rfl,zJ h 13 rfl⟩
theorem yz {W:World} {b:Nat} {v0 v1 v2 v3 v4 v5 v6 v7:Value} (h:Bx W b [v0,v1,v2,v3,v4,v5,v6,v7]):W.cell? ⟨b,0,none⟩ = some v0∧W.cell? ⟨b,1,none⟩ = some v1∧W.cell? ⟨b,2,none⟩ = some v2∧W.cell? ⟨b,3,none⟩ = some v3∧W.cell? ⟨b,4,none⟩ = some v4∧W.cell? ⟨b,5,none⟩ = some v5∧W.cell? ⟨b,6,none⟩ = some v6∧W.cell? ⟨b,7,none⟩ = some v7:=⟨zJ h 0 rfl,zJ h 1 rfl,zJ h 2 rfl,zJ h 3 rfl,zJ h 4 rfl,zJ h 5 rfl,zJ h 6 rfl,zJ h 7 rfl⟩
theorem yA {W:World} {b:Nat} {v0 v1 v2 v3 v4 v5:Value} (h:Bx W b [v0,v1,v2,v3,v4,v5]):W.cell? ⟨b,0,none⟩ = some v0∧W.cell? ⟨b,1,none⟩ = some v1∧W.cell? ⟨b,2,none⟩ = some v2∧W.cell? ⟨b,3,none⟩ = some v3∧W.cell? ⟨b,4,none⟩ = some v4∧W.cell? ⟨b,5,none⟩ = some v5:=⟨zJ h 0 rfl,zJ h 1 rfl,zJ h 2 rfl,zJ h 3 rfl,zJ h 4 rfl,zJ h 5 rfl⟩
theorem eI (w:World) (vs:List Value) (t:TypeId):Below w.heap.size w (w.alloc (Obj.cells vs.toArray t))∧Hid (Bx (w.alloc (Obj.cells vs.toArray t)) w.heap.size vs):=⟨(Below.refl _ _).alloc (Nat.le_refl _) _,aY w vs t⟩
theorem eJ (w:World) (vs:List Value) (t:TypeId):Hid (Below w.heap.size w (w.alloc (Obj.cells vs.toArray t)))∧Hid (Bx (w.alloc (Obj.cells vs.toArray t)) w.heap.size vs):=⟨(Below.refl _ _).alloc (Nat.le_refl _) _,aY w vs t⟩
def tags8:List ByteArray:=[⟨#[]⟩,⟨#[97]⟩,⟨#[100,101,115,107,32,55]⟩,⟨#[49,50,51,52,53,54,55,56,57,48,49,50]⟩,⟨#[49,50,51,52,53,54,55,56,57,48,49,50,51]⟩,⟨#[49,50,51,52,53,54,55,56,57,48,49,50,51,52,53,54,55,56,57,48]⟩,⟨#[195,169]⟩,⟨#[120,10]⟩]
theorem tags8_len:∀ s ∈ tags8,s.size ≤ 20:=by decide +kernel
theorem src_far {B:Nat} {w:World} {v:Value} {l:List Int} {m:Int} (h:Src B w v l m):l ≠ []→∃ k,v.ownBlock = some k∧k < w.heap.size:=fun xB=>by
 obtain ⟨a,A,rfl,hl,hc⟩:=h.rd
 obtain ⟨b,off,rfl,xq⟩:=hc xB
 exact ⟨b,rfl,yK w _ (xq 0 (List.length_pos_iff.2 xB))⟩
theorem src_keep {B:Nat} {w w':World} {v:Value} {l:List Int} {m:Int} {h1:Option Nat} (h:Src B w v l m) (hg:w.grownBy w' h1) (hB:some B ≠ h1) (hv:l ≠ []→v.ownBlock ≠ h1):Src B w' v l m:=by
 have F:=hg.block B (cn h) hB
 obtain ⟨a,s,k1,k2,k3,k4,k5,k6⟩:=h.cells
 have e:∀ i,w'.cell? (J B i) = w.cell? (J B i):=fun i=>yQ (a:=(J B i)) F
 have f:∀ i,w'.frozen? (J B i) = w.frozen? (J B i):=fun i=>World.frozen?_of_block (a:=(J B i)) F
 refine ⟨?_,h.ne,h.bts,(e 0).trans h.code,⟨a,s,k1,k2,k3,k4,(e 1).trans k5,(e 2).trans k6⟩,(f 1).trans h.free1,(f 2).trans h.free2⟩
 obtain ⟨a,A,rfl,hl,hc⟩:=h.rd
 refine ⟨a,A,rfl,hl,fun xB=>?_⟩
 obtain ⟨b,off,rfl,xq⟩:=hc xB
 exact ⟨b,off,rfl,fun i hi=>(yQ (a:=(J b (off + i))) (hg.block b (yK w _ (xq i hi)) (hv xB))).trans (xq i hi)⟩
theorem gr_setsD (b:Nat):∀ (vs:List Value) (o:Nat) (w:World),w.grownBy (w.setCells b o vs) (some b)
 | [],o,w=>by rw [World.setCells]; exact yR _ _
 | v :: vs,o,w=>by rw [World.setCells]; exact zY (gr_set w (J b o) v) (gr_setsD b vs (o + 1) _)
theorem srcE_set {B b o:Nat} {w W:World} {v:Value} {l:List Int} {m:Int} (hv:l ≠ []→∃ k,v.ownBlock = some k∧k < w.heap.size) (h:bH B w v l m W) (hB:B < w.heap.size) (F:w.heap.size ≤ b) (vs:List Value):bH B w v l m (W.setCells b o vs):=by
 have g:=gr_setsD b vs o W
 refine ⟨src_keep h.1 g (fun e=>by have:=Option.some.inj e; omega) (fun xB e=>?_),?_⟩
 ·obtain ⟨k,G,E⟩:=hv xB
  rw [G] at e
  have:=Option.some.inj e
  omega
 ·exact ⟨g.os.trans h.2.os,g.tape.trans h.2.tape,g.output.trans h.2.output,yN h.2.size g.size,fun k hk xB=>(g.block k (yJ hk h.2.size) (fun e=>by have:=Option.some.inj e; omega)).trans (h.2.block k hk xB)⟩
theorem by_at (l:List Int) (s:Sr):(byF l s).2.at_ = s.at_ + 1:=by
 rw [byF]; split
 ·rfl
 ·split <;> rfl
theorem by_bd {l:List Int} {s:Sr} (F:Bts l) (hs:0 ≤ s.seed):0 ≤ (byF l s).1∧(byF l s).1 ≤ 255:=by
 rw [byF]; split
 ·have:=bts_get F s.at_.toNat; exact ⟨this.1,by have:=this.2; show l.getD s.at_.toNat 0 ≤ 255; omega⟩
 ·split
  ·exact ⟨by show (0:Int) ≤ 0; omega,by show (0:Int) ≤ 255; omega⟩
  ·exact ⟨by show 0 ≤ (s.seed * 1103515245 + 12345) % 2147483648 / 65536 % 256; omega,by show (s.seed * 1103515245 + 12345) % 2147483648 / 65536 % 256 ≤ 255; omega⟩
theorem by_seed {l:List Int} {s:Sr} (hs:0 ≤ s.seed):0 ≤ (byF l s).2.seed:=by
 rw [byF]; split
 ·show 0 ≤ (s.seed * 31 + l.getD s.at_.toNat 0 + 7) % 2147483648; omega
 ·split
  ·exact hs
  ·show 0 ≤ (s.seed * 1103515245 + 12345) % 2147483648; omega
theorem aQ (l:List Int) (n:Int) (s:Sr):(nxF l n s).2.at_ ≤ s.at_ + 3:=by
 rw [nxF]; split
 ·show s.at_ ≤ s.at_ + 3; omega
 ·split
  ·show (byF l s).2.at_ ≤ s.at_ + 3; rw [by_at]; omega
  ·show (byF l (byF l (byF l s).2).2).2.at_ ≤ s.at_ + 3; rw [by_at,by_at,by_at]; omega
theorem nx_bd {l:List Int} {n:Int} {s:Sr} (G:1 ≤ n):0 ≤ (nxF l n s).1∧(nxF l n s).1 < n:=by
 rw [nxF]; split
 ·exact ⟨by show (0:Int) ≤ 0; omega,by show (0:Int) < n; omega⟩
 ·split
  ·exact ⟨Int.emod_nonneg _ (by omega),Int.emod_lt_of_pos _ (by omega)⟩
  ·exact ⟨Int.emod_nonneg _ (by omega),Int.emod_lt_of_pos _ (by omega)⟩
set_option maxRecDepth 100000 in
set_option maxHeartbeats 800000 in
theorem bj (B:Nat) (v:Value) (l:List Int) (n:Int) (s:Sr) (w:World) (h:SrX B w v l s) (hm:s.at_ ≤ 1000000000) (G:1 ≤ n) (E:n ≤ 1073741824) :
  Calls Tryz.prog 59 #[.pointer (some ⟨B,0,none⟩),.int .i64 n] w fun e w'=>e = .returned (.int .i64 (nxF l n s).1)∧SrXE B w v l (nxF l n s).2 w':=by
 have HS:=hide h
 have HBT:=hide h.src.bts
 have oZ:=h.s0
 clear h
 by_cases k1:n ≤ 1
 ·rw [nxF,if_pos k1]
  go_enter Tryz.func59,Tryz.ntmps59
  go_wp2_with fail
  go_ret
  exact ⟨rfl,U HS,yR _ _⟩
 rw [nxF,if_neg k1]
 by_cases k2:n ≤ 256
 ·rw [if_pos k2]
  have F:=by_bd (U HBT) oZ
  have ox:=hide (byte_ex B v l s w (U HS) (by omega))
  generalize byF l s = R at F ox ⊢
  go_enter Tryz.func59,Tryz.ntmps59
  go_wp2_with fail
  refine (U ox).mono ?_
  rintro e w1 ⟨rfl,hE⟩
  have HE:=hide hE
  clear hE
  have xB:(n == 0) = false:=by simp; omega
  go_wp2_with fail
  go_ret
  exact ⟨zr (by first | rfl | simp),U HE⟩
 rw [if_neg k2]
 have a1:=by_at l s
 have a2:=by_at l (byF l s).2
 have g1:=by_bd (U HBT) oZ
 have g2:=by_bd (s:=(byF l s).2) (U HBT) (by_seed oZ)
 have g3:=by_bd (s:=(byF l (byF l s).2).2) (U HBT) (by_seed (by_seed oZ))
 have xU:=hide (byte_ex B v l s w (U HS) (by omega))
 have xD:=hide (fun W hW=>byte_ex B v l (byF l s).2 W hW (by omega))
 have xV:=hide (fun W hW=>byte_ex B v l (byF l (byF l s).2).2 W hW (by omega))
 generalize byF l (byF l (byF l s).2).2 = R3 at g3 xV ⊢
 generalize byF l (byF l s).2 = R2 at g2 xD xV a2 ⊢
 generalize byF l s = R1 at g1 xU xD a1 a2 ⊢
 clear a1 a2
 go_enter Tryz.func59,Tryz.ntmps59
 go_wp2_with fail
 refine (U xU).mono ?_
 rintro e w1 ⟨rfl,hE⟩
 have pC:=hide hE
 clear hE
 go_wp2_with fail
 refine (U xD w1 (U pC).1).mono ?_
 rintro e w2 ⟨rfl,hE⟩
 have aw:=hide hE
 clear hE
 go_wp2_with fail
 refine (U xV w2 (U aw).1).mono ?_
 rintro e w3 ⟨rfl,hE⟩
 have HE3:=hide hE
 clear hE
 have xB:(n == 0) = false:=by simp; omega
 go_wp2_with fail
 go_ret
 exact ⟨zr (by first | rfl | simp),(U HE3).1,zY (zY (U pC).2 (U aw).2) (U HE3).2⟩
set_option maxHeartbeats 400000 in
theorem chance_ex (B:Nat) (v:Value) (l:List Int) (n:Int) (s:Sr) (w:World) (h:SrX B w v l s) (hm:s.at_ ≤ 1000000000) (G:1 ≤ n) (E:n ≤ 1073741824) :
  Calls Tryz.prog 105 #[.pointer (some ⟨B,0,none⟩),.int .i64 n] w fun e w'=>e = .returned (.bool ((nxF l n s).1 == n - 1))∧SrXE B w v l (nxF l n s).2 w':=by
 have HN:=hide (bj B v l n s w h hm G E)
 have hw:IntKind.i64.wrap (n - 1) = n - 1:=by rw [IntKind.wrap_i64]; omega
 clear h
 generalize nxF l n s = R at HN ⊢
 go_enter Tryz.func105,Tryz.ntmps105
 go_wp2_with fail
 refine (U HN).mono ?_
 rintro e w1 ⟨rfl,hE⟩
 have HE:=hide hE
 clear hE
 go_wp2_with fail
 go_ret
 exact ⟨rfl,U HE⟩
def PrW (p:Nat):Prop:=tkOk p = true→1 ≤ tk p∧tk p ≤ 1000000
end Go.Proofs.YtbakanofkghmiaaGreat
namespace Go.Proofs.YtbakanofkghmiaaGreat
open Go Ieee

theorem d_bin:double.binade = 4503599627370496:=by decide
theorem d_inf:double.infRung = 9218868437227405312:=by decide
theorem d_sw:double.signWeight = 9223372036854775808:=by decide
theorem d_lp:double.leastPlace = -1074:=by decide
theorem nan_iff (x:Nat):nanB x = true ↔ (double.read x).isNaN = true:=by
 constructor
 ·intro h
  by_cases hn:(double.read x).isNaN = true
  ·exact hn
  ·have:=datum_self _ hn
   have e:FloatKind.f64.format.order x x = some Ordering.eq:=this
   simp [nanB,e] at h
 ·intro h
  cases hx:double.read x with
  | nan s f =>
   have e:FloatKind.f64.format.order x x = none:=by
    show (double.read x).order (double.read x) = none
    rw [hx]; rfl
   simp [nanB,e]
  | infinity s=>rw [hx] at h; simp [Datum.isNaN] at h
  | number s m i=>rw [hx] at h; simp [Datum.isNaN] at h
theorem nan_rung (x:Nat):nanB x = true ↔ 9218868437227405312 < x % 9223372036854775808:=by
 rw [nan_iff]
 unfold Format.read
 simp only [d_bin,d_inf,d_sw,d_lp]
 split
 ·simp [Datum.isNaN]; omega
 ·split
  ·simp [Datum.isNaN]; omega
  ·split
   ·simp [Datum.isNaN]; omega
   ·simp [Datum.isNaN]; omega
theorem nan_drawn (t:Nat):nanB ((t % 2) * 2 ^ 63 + 0x7ff0000000000000 + 1 + (t / 2) % (2 ^ 52 - 1)) = true:=by
 rw [nan_rung]
 have G:t % 2 < 2:=Nat.mod_lt _ (by decide)
 have E:(t / 2) % (2 ^ 52 - 1) < 2 ^ 52 - 1:=Nat.mod_lt _ (by decide)
 rw [show (2:Nat) ^ 63 = 9223372036854775808 from rfl]
 rw [show (2:Nat) ^ 52 - 1 = 4503599627370495 from rfl] at *
 generalize (t / 2) % 4503599627370495 = b at *
 generalize t % 2 = a at *
 rcases (show a = 0 ∨ a = 1 by omega) with rfl | rfl <;> omega
end Go.Proofs.YtbakanofkghmiaaGreat
namespace Go.Proofs.YtbakanofkghmiaaGreat
open Go.RowKit Ieee
set_option linter.unusedVariables false

def prB (p:Nat):Bool:=!tkOk p || (decide (1 ≤ tk p) && decide (tk p ≤ 1000000))
theorem prW_of {p:Nat} (h:prB p = true):PrW p:=fun hk=>by
 rw [prB,hk] at h
 simpa using h
theorem prW_nan {x:Nat} (h:nanB x = true):PrW x:=fun hk=>by
 exfalso
 have G:=(nan_iff x).1 h
 have e:FloatKind.f64.format.order x 0 = none:=by
  show (double.read x).order (double.read 0) = none
  cases hx:double.read x with
  | nan s f=>rfl
  | infinity s=>rw [hx] at G; simp [Datum.isNaN] at G
  | number s m i=>rw [hx] at G; simp [Datum.isNaN] at G
 rw [tkOk,e] at hk
 simp at hk
end Go.Proofs.YtbakanofkghmiaaGreat
