/-
  The source of drawn things, exactly: a size, a text, an odd number, a number, a float, a tag. Proved by walking its methods.
-/
import Derived.Test.YtbakanofkghmiaaGreatWj26
import Derived.Test.YtbakanofkghmiaaGreatWj29
set_option linter.unusedVariables false
set_option maxHeartbeats 6400000
set_option maxRecDepth 100000
namespace Go.Proofs.YtbakanofkghmiaaGreat
open Go.RowKit Ieee
set_option linter.unusedVariables false

theorem bW {B:Nat} {w0 w:World} {v:Value} {l:List Int} {s:Sr} (h:SrXE B w0 v l s w) (o:Obj):SrXE B w0 v l s (w.alloc o):=by
 have hB:=cn h.1.src
 exact ⟨⟨(src_alloc (src_refl h.1.src) o).1,h.1.a0,h.1.s0,h.1.s1,(yV _ _ ⟨B,1,none⟩ hB).trans h.1.c1,(yV _ _ ⟨B,2,none⟩ hB).trans h.1.c2⟩,zY h.2 (bN w o _)⟩
theorem cN {B:Nat} {w:World} {v:Value} {l:List Int} {s:Sr} (h:SrX B w v l s):SrXE B w v l s w:=⟨h,yR _ _⟩
def szF (l:List Int) (most:Int):Int:=if 1 + (l.length:Int) / 12 ≤ most then 1 + (l.length:Int) / 12 else most
theorem size_ex (B:Nat) (v:Value) (l:List Int) (most:Int) (s:Sr) (w:World) (h:SrX B w v l s) :
  Calls Tryz.prog 60 #[.pointer (some ⟨B,0,none⟩),.int .i64 most] w fun e w'=>e = .returned (.int .i64 (szF l most))∧w' = w:=by
 have c:=h.src.code
 obtain ⟨a,A,rfl,hl,_⟩:=h.src.rd
 clear h
 by_cases hm:1 + (l.length:Int) / 12 ≤ most
 ·rw [szF,if_pos hm]
  go_enter Tryz.func60,Tryz.ntmps60
  go_wp2_with fail
  all_goals go_ret
  all_goals first | exact ⟨rfl,rfl⟩ | exact ⟨zr (by omega),rfl⟩
 ·rw [szF,if_neg hm]
  go_enter Tryz.func60,Tryz.ntmps60
  go_wp2_with fail
  all_goals go_ret
  all_goals first | exact ⟨rfl,rfl⟩ | exact ⟨zr (by omega),rfl⟩
set_option maxHeartbeats 400000 in
theorem pick_ex (B g n:Nat) (v:Value) (l:List Int) (s:Sr) (ts:List ByteArray) (w:World) (h:SrX B w v l s) (hm:s.at_ ≤ 1000000000) (hg:g ≠ B) (hn:ts.length = n) (G:1 ≤ n) (E:n ≤ 256) (hr:∀ k t,ts[k]? = some t→w.cell? ⟨g,k,none⟩ = some (.string t)) :
  Calls Tryz.prog 104 #[.pointer (some ⟨B,0,none⟩),.slice (some ⟨g,0,none⟩) n n] w fun e w'=>e = .returned (.string (ts.getD (nxF l n s).1.toNat ⟨#[]⟩))∧SrXE B w v l (nxF l n s).2 w':=by
 have HN:=hide (bj B v l n s w h hm (by omega) (by omega))
 have HR:=hide hr
 have F:((n:Int) == 0) = false:=by simp; omega
 obtain ⟨y0,y1⟩:=nx_bd (l:=l) (n:=n) (s:=s) (by omega)
 clear h hr
 generalize nxF l n s = R at HN y0 y1 ⊢
 obtain ⟨y,s'⟩:=R
 simp only at HN y0 y1 ⊢
 obtain ⟨k,rfl⟩:=Int.eq_ofNat_of_zero_le y0
 go_enter Tryz.func104,Tryz.ntmps104
 go_wp2_with fail
 refine (U HN).mono ?_
 rintro e w1 ⟨rfl,hE⟩
 have HE:=hide hE
 have hk:k < n:=by omega
 obtain ⟨t,ht⟩:∃ t,ts[k]? = some t:=⟨_,yH (by omega)⟩
 have hc:=hE.2.cell (U HR k t ht) (fun e=>hg (Option.some.inj e))
 have HT:Hid (ts.getD (k:Int).toNat ⟨#[]⟩ = t):=by show _ = _; rw [Int.toNat_natCast,List.getD_eq_getElem?_getD,ht]; rfl
 clear hE ht
 go_wp2_with fail
 go_ret
 rw [U HT]
 exact ⟨rfl,U HE⟩
def oddL:List Int:=[0,-1,1,2,63,64,65,4096,4097,9223372036854775807,-9223372036854775808,30]
set_option maxRecDepth 100000 in
set_option maxHeartbeats 800000 in
theorem odd_ex (B:Nat) (v:Value) (l:List Int) (s:Sr) (w:World) (h:SrX B w v l s) (hm:s.at_ ≤ 1000000000) :
  Calls Tryz.prog 162 #[.pointer (some ⟨B,0,none⟩)] w fun e w'=>e = .returned (.int .i64 (oddL.getD (nxF l 12 s).1.toNat 0))∧SrXE B w v l (nxF l 12 s).2 w':=by
 have hB:=cn h.src
 have HN:=hide (fun W hW=>bj B v l 12 s W hW hm (by omega) (by omega))
 have HX:=hide (aY w (oddL.map (.int .i64)) 3)
 have HA:=hide (fun o=>bW (cN h) o)
 obtain ⟨y0,y1⟩:=nx_bd (l:=l) (n:=12) (s:=s) (by omega)
 clear h
 generalize nxF l 12 s = R at HN y0 y1 ⊢
 obtain ⟨y,s'⟩:=R
 simp only at HN y0 y1 ⊢
 obtain ⟨k,rfl⟩:=Int.eq_ofNat_of_zero_le y0
 go_enter Tryz.func162,Tryz.ntmps162
 go_wp2_with fail
 refine (U HN _ (U HA _).1).mono ?_
 rintro e w1 ⟨rfl,hE⟩
 obtain ⟨t,ht⟩:∃ t,oddL[k]? = some t:=⟨_,yH (by show k < 12; omega)⟩
 have hc:=hE.2.cell (zJ (U HX) k (u:=.int .i64 t) (by rw [List.getElem?_map,ht]; rfl)) (fun e=>by have:=Option.some.inj e; simp at this; omega)
 have HE:=hide (show SrXE B w v l s' w1 from ⟨hE.1,zY (bN w _ _) hE.2⟩)
 have HT:Hid (oddL.getD (k:Int).toNat 0 = t):=by show _ = _; rw [Int.toNat_natCast,List.getD_eq_getElem?_getD,ht]; rfl
 clear hE ht HN HX HA
 go_wp2_with fail
 go_ret
 rw [U HT]
 exact ⟨rfl,U HE⟩
def nuF (l:List Int) (s:Sr):Int × Sr :=
 if ((nxF l 4 s).1 == 3) = true then (oddL.getD (nxF l 12 (nxF l 4 s).2).1.toNat 0,(nxF l 12 (nxF l 4 s).2).2)
 else ((nxF l 400 (nxF l 4 s).2).1 - 100,(nxF l 400 (nxF l 4 s).2).2)
set_option maxRecDepth 100000 in
set_option maxHeartbeats 800000 in
theorem number_ex (B:Nat) (v:Value) (l:List Int) (s:Sr) (w:World) (h:SrX B w v l s) (hm:s.at_ ≤ 900000000) :
  Calls Tryz.prog 141 #[.pointer (some ⟨B,0,none⟩)] w fun e w'=>e = .returned (.int .i64 (nuF l s).1)∧SrXE B w v l (nuF l s).2 w':=by
 have hat:=aQ l 4 s
 have HC:=hide (chance_ex B v l 4 s w h (by omega) (by omega) (by omega))
 have HO:=hide (fun W hW=>odd_ex B v l (nxF l 4 s).2 W hW (by omega))
 have HN:=hide (fun W hW=>bj B v l 400 (nxF l 4 s).2 W hW (by omega) (by omega) (by omega))
 have po:=nx_bd (l:=l) (n:=400) (s:=(nxF l 4 s).2) (by omega)
 clear h hat
 have e3:(4:Int) - 1 = 3:=rfl
 rw [nuF]
 generalize nxF l 400 (nxF l 4 s).2 = R2 at HN po ⊢
 generalize nxF l 12 (nxF l 4 s).2 = R3 at HO ⊢
 generalize nxF l 4 s = R1 at HC HO HN ⊢
 rw [e3] at HC
 by_cases F:(R1.1 == 3) = true
 ·rw [if_pos F]
  go_enter Tryz.func141,Tryz.ntmps141
  go_wp2_with fail
  refine (U HC).mono ?_
  rintro e w1 ⟨rfl,hE⟩
  have HE:=hide hE
  rw [F]
  clear hE HC e3 F
  go_wp2_with fail
  refine (U HO w1 (U HE).1).mono ?_
  rintro e w2 ⟨rfl,hE2⟩
  have aw:=hide hE2
  clear hE2
  go_wp2_with fail
  go_ret
  exact ⟨rfl,(U aw).1,zY (U HE).2 (U aw).2⟩
 ·rw [if_neg F]
  have jK:(R1.1 == 3) = false:=by simpa using F
  have hw:IntKind.i64.wrap (R2.1 - 100) = R2.1 - 100:=by rw [IntKind.wrap_i64]; omega
  go_enter Tryz.func141,Tryz.ntmps141
  go_wp2_with fail
  refine (U HC).mono ?_
  rintro e w1 ⟨rfl,hE⟩
  have HE:=hide hE
  rw [jK]
  clear hE HC e3 F jK
  go_wp2_with fail
  refine (U HN w1 (U HE).1).mono ?_
  rintro e w2 ⟨rfl,hE2⟩
  have aw:=hide hE2
  clear hE2
  go_wp2_with fail
  go_ret
  exact ⟨rfl,(U aw).1,zY (U HE).2 (U aw).2⟩
end Go.Proofs.YtbakanofkghmiaaGreat
namespace Go.Proofs.YtbakanofkghmiaaGreat
open Go.RowKit Ieee
set_option linter.unusedVariables false

def PEq (y z:Nat):Prop:=y = z ∨ (nanB y = true∧nanB z = true)
def fltL:List Nat:=[0,9223372036854775808,9221120237041090560,9218868437227405312,18442240474082181120,4598175219545276416,4636737291354636288,4636719699168591872,4687829947429945344,4687829956019879936,4591870180066957722,13830554455654793216,9223372036854775808,9094988921128908188,1]
theorem copysign_ex (w:World):Calls Tryz.prog 164 #[.float .f64 0,.float .f64 13830554455654793216] w fun e w'=>∃ y:Nat,e = .returned (.float .f64 y)∧y = 9223372036854775808∧w' = w:=by
 have G:=fbits
 have E:=frombitsS
 go_enter Tryz.func164,Tryz.ntmps164
 go_wp2_with fail
 go_ret
 exact ⟨_,rfl,by kernel_rfl,rfl⟩
theorem nanOf_nan (W:World):nanB (nanOf W) = true:=by
 have h:nanOf W = (W.tape W.drawn (.nanBits .f64 0 0) % 2) * 2 ^ 63 + 0x7ff0000000000000 + 1 + (W.tape W.drawn (.nanBits .f64 0 0) / 2) % (2 ^ 52 - 1):=rfl
 rw [h]
 exact nan_drawn _
theorem float_rowX (k n y:Nat) (w:World) (t:TypeId) (h:k < 15) (hn:nanB n = true) (hy:y = 9223372036854775808) :
  ∃ z:Nat,PEq z (fltL.getD k 0)∧(w.alloc (.cells #[.float .f64 0,.float .f64 9223372036854775808,.float .f64 n,.float .f64 9218868437227405312,.float .f64 18442240474082181120,.float .f64 4598175219545276416,.float .f64 4636737291354636288,.float .f64 4636719699168591872,
   .float .f64 4687829947429945344,.float .f64 4687829956019879936,.float .f64 4591870180066957722,.float .f64 13830554455654793216,.float .f64 y,.float .f64 9094988921128908188,.float .f64 1] t)).cell? ⟨w.heap.size,k,none⟩ = some (.float .f64 z):=by
 rcases (show k = 0 ∨ k = 1 ∨ k = 2 ∨ k = 3 ∨ k = 4 ∨ k = 5 ∨ k = 6 ∨ k = 7 ∨ k = 8 ∨ k = 9 ∨ k = 10 ∨ k = 11 ∨ k = 12 ∨ k = 13 ∨ k = 14 by omega) with rfl | rfl | rfl | rfl | rfl | rfl | rfl | rfl | rfl | rfl | rfl | rfl | rfl | rfl | rfl
 all_goals first | exact ⟨_,.inr ⟨hn,by decide +kernel⟩,cell_of_row _ _ _ _ _ (0,0) (heap_alloc_new w _)⟩ | exact ⟨_,.inl rfl,cell_of_row _ _ _ _ _ (0,0) (heap_alloc_new w _)⟩ | exact ⟨_,.inl hy,cell_of_row _ _ _ _ _ (0,0) (heap_alloc_new w _)⟩
set_option maxRecDepth 100000 in
set_option maxHeartbeats 800000 in
theorem float_ex (B:Nat) (v:Value) (l:List Int) (s:Sr) (w:World) (h:SrX B w v l s) (hm:s.at_ ≤ 900000000) :
  Calls Tryz.prog 142 #[.pointer (some ⟨B,0,none⟩)] w fun e w'=>∃ y:Nat,e = .returned (.float .f64 y)∧PEq y (fltL.getD (nxF l 15 s).1.toNat 0)∧SrXE B w v l (nxF l 15 s).2 w':=by
 have HS:=hide h
 have hB:=cn h.src
 have HN:=hide (fun W hW=>bj B v l 15 s W hW (by omega) (by omega) (by omega))
 obtain ⟨y0,y1⟩:=nx_bd (l:=l) (n:=15) (s:=s) (by omega)
 clear h
 generalize nxF l 15 s = R at HN y0 y1 ⊢
 obtain ⟨yy,s'⟩:=R
 simp only at HN y0 y1 ⊢
 obtain ⟨k,rfl⟩:=Int.eq_ofNat_of_zero_le y0
 rw [Int.toNat_natCast]
 have e1:=neg_zero
 have e2:=one_zero
 have e3:=less_zero
 have e4:=zero_zero
 go_enter Tryz.func142,Tryz.ntmps142
 go_wp2_with (first | (go_at_call 163; refine (zero_any _).mono ?_; rintro e w' ⟨rfl,rfl⟩) | (go_at_call 164; refine (copysign_ex _).mono ?_; rintro e w' ⟨yc,rfl,rfl,rfl⟩))
 have hn:=nanOf_nan w'
 generalize nanOf w' = n0 at *
 refine (U HN _ (srX_drew (bW (cN (U HS)) _) 1).1).mono ?_
 rintro e w1 ⟨rfl,hE⟩
 obtain ⟨z,uJ,hz⟩:=float_rowX k n0 9223372036854775808 w' 41 (by omega) hn rfl
 have HE:=hide (show SrXE B w' v l s' w1 from ⟨hE.1,zY (zY (bN w' _ _) (gr_drewN _ 1 _)) hE.2⟩)
 have HZ:=hide uJ
 have hc:=hE.2.cell (show (World.drewN _ 1).cell? _ = _ from hz) (by simp; omega)
 clear hE hz e1 e2 e3 e4 uJ
 go_wp2_with fail
 go_ret
 exact ⟨_,rfl,U HZ,U HE⟩
set_option maxHeartbeats 400000 in
theorem tag_ex (B:Nat) (v:Value) (l:List Int) (s:Sr) (w:World) (h:SrX B w v l s) (hm:s.at_ ≤ 1000000000) :
  Calls Tryz.prog 143 #[.pointer (some ⟨B,0,none⟩)] w fun e w'=>e = .returned (.string (tags8.getD (nxF l 8 s).1.toNat ⟨#[]⟩))∧SrXE B w v l (nxF l 8 s).2 w':=by
 have HS:=hide h
 have hB:=cn h.src
 clear h
 have HX:=hide (aY w (tags8.map .string) 9)
 go_enter Tryz.func143,Tryz.ntmps143
 go_wp2_with fail
 refine (pick_ex B w.heap.size 8 v l s tags8 _ (bW (cN (U HS)) _).1 hm (by omega) rfl (by omega) (by omega) (fun k t ht=>zJ (U HX) k (by rw [List.getElem?_map,ht]; rfl))).mono ?_
 rintro e w1 ⟨rfl,hE⟩
 have HE:=hide (show SrXE B w v l (nxF l (8:Nat) s).2 w1 from ⟨hE.1,zY (bN w _ _) hE.2⟩)
 clear hE HX
 go_wp2_with fail
 go_ret
 exact ⟨rfl,U HE⟩
end Go.Proofs.YtbakanofkghmiaaGreat
namespace Go.Proofs.YtbakanofkghmiaaGreat
open Go.RowKit
def DrOk (c:Cm):Prop:=c.g.size ≤ 20∧PrW c.p
structure CmEq (c d:Cm):Prop where
 k:c.k = d.k
 s:c.s = d.s
 t:c.t = d.t
 l:c.l = d.l
 q:c.q = d.q
 i:c.i = d.i
 p:PEq c.p d.p
 g:c.g = d.g
theorem nu_at (l:List Int) (s:Sr):(nuF l s).2.at_ ≤ s.at_ + 6:=by
 have G:=aQ l 4 s
 rw [nuF]; split
 ·have:=aQ l 12 (nxF l 4 s).2
  show (nxF l 12 (nxF l 4 s).2).2.at_ ≤ s.at_ + 6; omega
 ·have:=aQ l 400 (nxF l 4 s).2
  show (nxF l 400 (nxF l 4 s).2).2.at_ ≤ s.at_ + 6; omega
def rawF (l:List Int) (s:Sr):Cm × Sr :=
 let r1:=nxF l 6 s
 let r2:=nxF l 4 r1.2
 let r3:=nxF l 7 r2.2
 let r4:=nxF l 3 r3.2
 let r5:=nuF l r4.2
 let r6:=nxF l 3 r5.2
 let r7:=nxF l 15 r6.2
 let r8:=nxF l 8 r7.2
 (⟨r1.1,r2.1,r3.1,r4.1,r5.1,r6.1,fltL.getD r7.1.toNat 0,tags8.getD r8.1.toNat ⟨#[]⟩⟩,r8.2)
theorem raw_at (l:List Int) (s:Sr):(rawF l s).2.at_ ≤ s.at_ + 27:=by
 rw [rawF]
 have G:=aQ l 6 s
 have E:=aQ l 4 (nxF l 6 s).2
 have h3:=aQ l 7 (nxF l 4 (nxF l 6 s).2).2
 have h4:=aQ l 3 (nxF l 7 (nxF l 4 (nxF l 6 s).2).2).2
 have h5:=nu_at l (nxF l 3 (nxF l 7 (nxF l 4 (nxF l 6 s).2).2).2).2
 have h6:=aQ l 3 (nuF l (nxF l 3 (nxF l 7 (nxF l 4 (nxF l 6 s).2).2).2).2).2
 have h7:=aQ l 15 (nxF l 3 (nuF l (nxF l 3 (nxF l 7 (nxF l 4 (nxF l 6 s).2).2).2).2).2).2
 have h8:=aQ l 8 (nxF l 15 (nxF l 3 (nuF l (nxF l 3 (nxF l 7 (nxF l 4 (nxF l 6 s).2).2).2).2).2).2).2
 simp only
 omega
structure DrY (B b:Nat) (w:World) (v:Value) (l:List Int) (s:Sr) (W:World):Prop where
 e:SrXE B w v l s W
 t:W.there b 0 8
theorem bF {B:Nat} {w W W':World} {v:Value} {l:List Int} {s s':Sr} (h:DrY B w.heap.size w v l s W) (hB:B < w.heap.size) (h':SrXE B W v l s' W') (hW:w.heap.size < W.heap.size):DrY B w.heap.size w v l s' W' :=
 ⟨⟨h'.1,zY h.e.2 h'.2⟩,bK h.t h'.2 hW (fun e=>by have:=Option.some.inj e; omega)⟩
theorem cX {B b o:Nat} {w W:World} {v:Value} {l:List Int} {s:Sr} (hv:l ≠ []→∃ k,v.ownBlock = some k∧k < w.heap.size) (h:SrXE B w v l s W) (hB:B < w.heap.size) (F:w.heap.size ≤ b) (vs:List Value):SrXE B w v l s (W.setCells b o vs):=by
 have G:=srcE_set (b:=b) (o:=o) hv ⟨h.1.src,h.2⟩ hB F vs
 have g:=gr_setsD b vs o W
 have xB:some B ≠ some b:=fun e=>by have:=Option.some.inj e; omega
 have e:∀ i,(W.setCells b o vs).cell? ⟨B,i,none⟩ = W.cell? ⟨B,i,none⟩:=fun i=>yQ (a:=⟨B,i,none⟩) (g.block B (cn h.1.src) xB)
 exact ⟨⟨G.1,h.1.a0,h.1.s0,h.1.s1,(e 1).trans h.1.c1,(e 2).trans h.1.c2⟩,G.2⟩
set_option maxRecDepth 100000 in
set_option maxHeartbeats 3200000 in
theorem rawCmd_ex (B:Nat) (v:Value) (l:List Int) (s:Sr) (w:World) (h:SrX B w v l s) (hm:s.at_ ≤ 800000000) :
  Calls Tryz.prog 103 #[.pointer (some ⟨B,0,none⟩)] w fun e w'=>∃ c:Cm,e = .returned (.agg c.vs.toArray)∧CmEq c (rawF l s).1∧SrXE B w v l (rawF l s).2 w':=by
 generalize G:nxF l 6 s = R1
 obtain ⟨y1,s1⟩:=R1
 have a1:=aQ l 6 s
 rw [G] at a1
 simp only at a1
 generalize E:nxF l 4 s1 = R2
 obtain ⟨y2,s2⟩:=R2
 have a2:=aQ l 4 s1
 rw [E] at a2
 simp only at a2
 generalize h3:nxF l 7 s2 = R3
 obtain ⟨y3,s3⟩:=R3
 have a3:=aQ l 7 s2
 rw [h3] at a3
 simp only at a3
 generalize h4:nxF l 3 s3 = R4
 obtain ⟨y4,s4⟩:=R4
 have a4:=aQ l 3 s3
 rw [h4] at a4
 simp only at a4
 generalize h5:nuF l s4 = R5
 obtain ⟨y5,s5⟩:=R5
 have a5:=nu_at l s4
 rw [h5] at a5
 simp only at a5
 generalize h6:nxF l 3 s5 = R6
 obtain ⟨y6,s6⟩:=R6
 have a6:=aQ l 3 s5
 rw [h6] at a6
 simp only at a6
 generalize h7:nxF l 15 s6 = R7
 obtain ⟨y7,s7⟩:=R7
 have a7:=aQ l 15 s6
 rw [h7] at a7
 simp only at a7
 generalize h8:nxF l 8 s7 = R8
 obtain ⟨y8,s8⟩:=R8
 have a8:=aQ l 8 s7
 rw [h8] at a8
 simp only at a8
 have oC:Hid (rawF l s = (⟨y1,y2,y3,y4,y5,y6,fltL.getD y7.toNat 0,tags8.getD y8.toNat ⟨#[]⟩⟩,s8)):=by show _ = _; simp only [rawF,G,E,h3,h4,h5,h6,h7,h8]
 have C1:=hide (fun W hW=>bj B v l 6 s W hW (by omega) (by omega) (by omega))
 simp only [G] at C1
 have C2:=hide (fun W hW=>bj B v l 4 s1 W hW (by omega) (by omega) (by omega))
 simp only [E] at C2
 have C3:=hide (fun W hW=>bj B v l 7 s2 W hW (by omega) (by omega) (by omega))
 simp only [h3] at C3
 have C4:=hide (fun W hW=>bj B v l 3 s3 W hW (by omega) (by omega) (by omega))
 simp only [h4] at C4
 have C5:=hide (fun W hW=>number_ex B v l s4 W hW (by omega))
 simp only [h5] at C5
 have C6:=hide (fun W hW=>bj B v l 3 s5 W hW (by omega) (by omega) (by omega))
 simp only [h6] at C6
 have C7:=hide (fun W hW=>float_ex B v l s6 W hW (by omega))
 simp only [h7] at C7
 have C8:=hide (fun W hW=>tag_ex B v l s7 W hW (by omega))
 simp only [h8] at C8
 have HV:=hide (src_far h.src)
 have hB:=cn h.src
 have oy:Hid (DrY B w.heap.size w v l s (w.alloc (Obj.cells #[.int .i64 0,.int .i64 0,.int .i64 0,.int .i64 0,.int .i64 0,.int .i64 0,.float .f64 0,.string ⟨#[]⟩] 43))):=⟨bW (cN h) _,(aY w [.int .i64 0,.int .i64 0,.int .i64 0,.int .i64 0,.int .i64 0,.int .i64 0,.float .f64 0,.string ⟨#[]⟩] 43).t⟩
 have oZ:w.heap.size < (w.alloc (Obj.cells #[.int .i64 0,.int .i64 0,.int .i64 0,.int .i64 0,.int .i64 0,.int .i64 0,.float .f64 0,.string ⟨#[]⟩] 43)).heap.size:=by simp
 rw [U oC]
 clear h G E h3 h4 h5 h6 h7 h8 a1 a2 a3 a4 a5 a6 a7 a8 oC
 generalize tags8.getD y8.toNat ⟨#[]⟩ = L at C8 ⊢
 generalize fltL.getD y7.toNat 0 = p0 at C7 ⊢
 go_enter Tryz.func103,Tryz.ntmps103
 go_wp2_with fail
 generalize (w.alloc (Obj.cells #[.int .i64 0,.int .i64 0,.int .i64 0,.int .i64 0,.int .i64 0,.int .i64 0,.float .f64 0,.string ⟨#[]⟩] 43)) = W0 at oy oZ ⊢
 refine (U C1 W0 (U oy).e.1).mono ?_
 rintro e W1 ⟨rfl,hE⟩
 have jd:=hide (bF (U oy) hB hE oZ)
 have xA:w.heap.size < W1.heap.size:=yJ oZ hE.2.size
 clear hE oy oZ C1
 go_wp2_with fail
 refine (U C2 W1 (U jd).e.1).mono ?_
 rintro e W2 ⟨rfl,hE⟩
 have pB:=hide (bF (U jd) hB hE xA)
 have ua:w.heap.size < W2.heap.size:=yJ xA hE.2.size
 clear hE jd xA C2
 go_wp2_with fail
 refine (U C3 W2 (U pB).e.1).mono ?_
 rintro e W3 ⟨rfl,hE⟩
 have HD3:=hide (bF (U pB) hB hE ua)
 have jt:w.heap.size < W3.heap.size:=yJ ua hE.2.size
 clear hE pB ua C3
 go_wp2_with fail
 refine (U C4 W3 (U HD3).e.1).mono ?_
 rintro e W4 ⟨rfl,hE⟩
 have HD4:=hide (bF (U HD3) hB hE jt)
 have hs4:w.heap.size < W4.heap.size:=yJ jt hE.2.size
 clear hE HD3 jt C4
 go_wp2_with fail
 refine (U C5 W4 (U HD4).e.1).mono ?_
 rintro e W5 ⟨rfl,hE⟩
 have HD5:=hide (bF (U HD4) hB hE hs4)
 have hs5:w.heap.size < W5.heap.size:=yJ hs4 hE.2.size
 clear hE HD4 hs4 C5
 go_wp2_with fail
 refine (U C6 W5 (U HD5).e.1).mono ?_
 rintro e W6 ⟨rfl,hE⟩
 have HD6:=hide (bF (U HD5) hB hE hs5)
 have hs6:w.heap.size < W6.heap.size:=yJ hs5 hE.2.size
 clear hE HD5 hs5 C6
 go_wp2_with fail
 refine (U C7 W6 (U HD6).e.1).mono ?_
 rintro e W7 ⟨p7,rfl,hp7,hE⟩
 have HD7:=hide (bF (U HD6) hB hE hs6)
 have hs7:w.heap.size < W7.heap.size:=yJ hs6 hE.2.size
 have HP7:=hide hp7
 clear hp7
 clear hE HD6 hs6 C7
 go_wp2_with fail
 refine (U C8 W7 (U HD7).e.1).mono ?_
 rintro e W8 ⟨rfl,hE⟩
 have HD8:=hide (bF (U HD7) hB hE hs7)
 have hs8:w.heap.size < W8.heap.size:=yJ hs7 hE.2.size
 clear hE HD7 hs7 C8
 have jI:=hide (U HD8).t
 have uG:Hid ((W8.setCells w.heap.size 0 [.int .i64 y1,.int .i64 y2,.int .i64 y3,.int .i64 y4,.int .i64 y5,.int .i64 y6,.float .f64 p7,.string L]).rangeAt w.heap.size 0 [.int .i64 y1,.int .i64 y2,.int .i64 y3,.int .i64 y4,.int .i64 y5,.int .i64 y6,.float .f64 p7,.string L]):=yX _ _ _ _ (U HD8).t
 have ke:Hid (SrXE B w v l s8 (W8.setCells w.heap.size 0 [.int .i64 y1,.int .i64 y2,.int .i64 y3,.int .i64 y4,.int .i64 y5,.int .i64 y6,.float .f64 p7,.string L])):=cX (U HV) (U HD8).e hB (Nat.le_refl _) _
 try dsimp only
 rename_i K1 pN K2 qT
 refine qT _ _ ?_
 have xu:=hide pN
 clear pN qT
 refine wpList_step fun K3 vR=>?_
 have vz:=hide vR
 clear vR
 rw [if_pos (by rfl)]
 unfold Oper.wp
 go_simp
 refine U vz _ _ ?_
 clear vz
 refine wpList_store_mid rfl 43 (.tmp 2) (.tmp 19) rfl w.heap.size 0 #[.int .i64 y1,.int .i64 y2,.int .i64 y3,.int .i64 y4,.int .i64 y5,.int .i64 y6,.float .f64 p7,.string L] rfl rfl (U jI) (by kernel_rfl) (by simp [Value.oneCell']) ?_
 change wpList _ _ _ _ _ (W8.setCells w.heap.size 0 [.int .i64 y1,.int .i64 y2,.int .i64 y3,.int .i64 y4,.int .i64 y5,.int .i64 y6,.float .f64 p7,.string L])
 generalize W8.setCells w.heap.size 0 [.int .i64 y1,.int .i64 y2,.int .i64 y3,.int .i64 y4,.int .i64 y5,.int .i64 y6,.float .f64 p7,.string L] = WF at uG ke ⊢
 have pN:=U xu
 go_wp2_with fail
 have d0:=U uG 0 _ rfl
 have d1:=U uG 1 _ rfl
 have d2:=U uG 2 _ rfl
 have d3:=U uG 3 _ rfl
 have d4:=U uG 4 _ rfl
 have d5:=U uG 5 _ rfl
 have d6:=U uG 6 _ rfl
 have d7:=U uG 7 _ rfl
 simp only [Nat.zero_add] at d0 d1 d2 d3 d4 d5 d6 d7
 refine bodyPost_ret (by simp [results,Tryz.results103,go_sem,d0,d1,d2,d3,d4,d5,d6,d7]; try rfl) rfl ?_
 exact ⟨⟨y1,y2,y3,y4,y5,y6,p7,L⟩,rfl,⟨rfl,rfl,rfl,rfl,rfl,rfl,U HP7,rfl⟩,U ke⟩
def PrO (k a b c:Nat):Prop:=∀ W:World,(convert 3 41 (H k)).run Tryz.prog W = .ok (yj a) W∧(binOp .quo 41 (yj a) (yj 4616189618054758400)).run Tryz.prog W = .ok (yj b) W∧(binOp .add 41 (yj 4636666922610458624) (yj b)).run Tryz.prog W = .ok (yj c) W
theorem prO_of {k a b c:Nat} (G:∀ W:World,(convert 3 41 (H k)).run Tryz.prog W = .ok (yj a) W) (E:FloatKind.f64.format.div a 4616189618054758400 = some b) (h3:FloatKind.f64.format.add 4636666922610458624 b = some c):PrO k a b c :=
 fun W=>⟨G W,by simp [binOp,Op.floatArith,E],by simp [binOp,Op.floatArith,h3]⟩
theorem prO_0:PrO 0 0 0 4636666922610458624:=prO_of (fun W=>by kernel_rfl) (by kernel_rfl) (by kernel_rfl)
theorem prO_1:PrO 1 4607182418800017408 4598175219545276416 4636684514796503040:=prO_of (fun W=>by kernel_rfl) (by kernel_rfl) (by kernel_rfl)
theorem prO_2:PrO 2 4611686018427387904 4602678819172646912 4636702106982547456:=prO_of (fun W=>by kernel_rfl) (by kernel_rfl) (by kernel_rfl)
theorem prO_3:PrO 3 4613937818241073152 4604930618986332160 4636719699168591872:=prO_of (fun W=>by kernel_rfl) (by kernel_rfl) (by kernel_rfl)
theorem prO_4:PrO 4 4616189618054758400 4607182418800017408 4636737291354636288:=prO_of (fun W=>by kernel_rfl) (by kernel_rfl) (by kernel_rfl)
theorem prO_5:PrO 5 4617315517961601024 4608308318706860032 4636754883540680704:=prO_of (fun W=>by kernel_rfl) (by kernel_rfl) (by kernel_rfl)
theorem prO_6:PrO 6 4618441417868443648 4609434218613702656 4636772475726725120:=prO_of (fun W=>by kernel_rfl) (by kernel_rfl) (by kernel_rfl)
theorem prO_7:PrO 7 4619567317775286272 4610560118520545280 4636790067912769536:=prO_of (fun W=>by kernel_rfl) (by kernel_rfl) (by kernel_rfl)
theorem prO_8:PrO 8 4620693217682128896 4611686018427387904 4636807660098813952:=prO_of (fun W=>by kernel_rfl) (by kernel_rfl) (by kernel_rfl)
def tag3:List ByteArray:=[⟨#[]⟩,⟨#[97]⟩,⟨#[100,101,115,107,32,55]⟩]
theorem tag3_len:∀ s ∈ tag3,s.size ≤ 20:=by decide +kernel
def tyL:List Int:=[1,1,1,2,3,4,5,5]
def prL:List Nat:=[4636666922610458624,4636684514796503040,4636702106982547456,4636719699168591872,4636737291354636288,4636754883540680704,4636772475726725120,4636790067912769536,4636807660098813952]
theorem prO_ex (k:Nat) (h:k < 9):∃ a b,PrO k a b (prL.getD k 0):=by
 rcases (by omega:k = 0 ∨ k = 1 ∨ k = 2 ∨ k = 3 ∨ k = 4 ∨ k = 5 ∨ k = 6 ∨ k = 7 ∨ k = 8) with rfl | rfl | rfl | rfl | rfl | rfl | rfl | rfl | rfl
 ·exact ⟨_,_,prO_0⟩
 ·exact ⟨_,_,prO_1⟩
 ·exact ⟨_,_,prO_2⟩
 ·exact ⟨_,_,prO_3⟩
 ·exact ⟨_,_,prO_4⟩
 ·exact ⟨_,_,prO_5⟩
 ·exact ⟨_,_,prO_6⟩
 ·exact ⟨_,_,prO_7⟩
 ·exact ⟨_,_,prO_8⟩
def cpF (l:List Int) (ty:Int) (s:Sr):Nat × Sr:=if ty = 2 then (0,s) else (prL.getD (nxF l 9 s).1.toNat 0,(nxF l 9 s).2)
def clF (l:List Int) (ty:Int) (s:Sr):Int × Sr:=if aO ty = true then (if (nxF l 3 s).1 = 2 then 1 else 0,(nxF l 3 s).2) else (0,s)
def cnF (l:List Int) (s:Sr):Cm × Sr :=
 let a:=nxF l 2 s
 let b:=nxF l 8 a.2
 let d:=nxF l 12 b.2
 let g:=nxF l 3 d.2
 let ty:=tyL.getD b.1.toNat 0
 let e:=cpF l ty g.2
 let f:=clF l ty e.2
 (⟨1,1 + a.1,ty,f.1,1 + d.1,0,e.1,tag3.getD g.1.toNat ⟨#[]⟩⟩,f.2)
def cmdF (l:List Int) (ids:Int) (s:Sr):Cm × Sr :=
 let r:=nxF l 12 s
 if r.1 = 0 then rawF l r.2
 else if r.1 = 1 then (⟨2,0,0,0,0,1 + (nxF l (ids + 1) r.2).1,0,⟨#[]⟩⟩,(nxF l (ids + 1) r.2).2)
 else if r.1 = 2 then (⟨3,0,0,0,(nxF l 6 (nxF l (ids + 1) r.2).2).1,1 + (nxF l (ids + 1) r.2).1,0,⟨#[]⟩⟩,(nxF l 6 (nxF l (ids + 1) r.2).2).2)
 else if r.1 = 3 then (⟨4,0,0,0,0,0,0,⟨#[]⟩⟩,r.2)
 else cnF l r.2
def scrF (l:List Int):Nat→Nat→Sr→List Cm × Sr
 | 0,_,s=>([],s)
 | n + 1,k,s=>((cmdF l k s).1 :: (scrF l n (k + 1) (cmdF l k s).2).1,(scrF l n (k + 1) (cmdF l k s).2).2)
theorem cp_at (l:List Int) (ty:Int) (s:Sr):(cpF l ty s).2.at_ ≤ s.at_ + 3:=by
 rw [cpF]; split
 ·show s.at_ ≤ s.at_ + 3; omega
 ·exact aQ l 9 s
theorem cl_at (l:List Int) (ty:Int) (s:Sr):(clF l ty s).2.at_ ≤ s.at_ + 3:=by
 rw [clF]; split
 ·exact aQ l 3 s
 ·show s.at_ ≤ s.at_ + 3; omega
theorem cn_at (l:List Int) (s:Sr):(cnF l s).2.at_ ≤ s.at_ + 18:=by
 have G:=aQ l 2 s
 have E:=aQ l 8 (nxF l 2 s).2
 have h3:=aQ l 12 (nxF l 8 (nxF l 2 s).2).2
 have h4:=aQ l 3 (nxF l 12 (nxF l 8 (nxF l 2 s).2).2).2
 rw [cnF]
 simp only
 generalize tyL.getD (nxF l 8 (nxF l 2 s).2).1.toNat 0 = ty
 have h5:=cp_at l ty (nxF l 3 (nxF l 12 (nxF l 8 (nxF l 2 s).2).2).2).2
 have h6:=cl_at l ty (cpF l ty (nxF l 3 (nxF l 12 (nxF l 8 (nxF l 2 s).2).2).2).2).2
 omega
theorem cmd_at (l:List Int) (ids:Int) (s:Sr):(cmdF l ids s).2.at_ ≤ s.at_ + 30:=by
 have h0:=aQ l 12 s
 have G:=raw_at l (nxF l 12 s).2
 have E:=aQ l (ids + 1) (nxF l 12 s).2
 have h3:=aQ l 6 (nxF l (ids + 1) (nxF l 12 s).2).2
 have h4:=cn_at l (nxF l 12 s).2
 rw [cmdF]
 split
 ·omega
 ·split
  ·show (nxF l (ids + 1) (nxF l 12 s).2).2.at_ ≤ _; omega
  ·split
   ·show (nxF l 6 (nxF l (ids + 1) (nxF l 12 s).2).2).2.at_ ≤ _; omega
   ·split
    ·show (nxF l 12 s).2.at_ ≤ _; omega
    ·omega
end Go.Proofs.YtbakanofkghmiaaGreat
