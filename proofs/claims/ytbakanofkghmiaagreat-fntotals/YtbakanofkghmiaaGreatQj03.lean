/-
  Floats drawn out of the source, and what stands of them as prices: proved by walking the method.
-/
import Derived.Test.YtbakanofkghmiaaGreatQj02
set_option linter.unusedVariables false
set_option maxHeartbeats 6400000
set_option maxRecDepth 100000
namespace Go.Proofs.YtbakanofkghmiaaGreat
open Go.RowKit Ieee
set_option linter.unusedVariables false

def prB (p:Nat):Bool:=!tkOk p || (decide (1 ≤ tk p) && decide (tk p ≤ 1000000))
theorem prW_of {p:Nat} (h:prB p = true):PrW p:=fun hk=>by
 rw [prB,hk] at h
 simpa using h
theorem prW_nan {x:Nat} (h:nanB x = true):PrW x:=fun hk=>by
 exfalso
 have Q:=(nan_iff x).1 h
 have e:FloatKind.f64.format.order x 0 = none:=by
  show (double.read x).order (double.read 0) = none
  cases hx:double.read x with
  | nan s f=>rfl
  | infinity s=>rw [hx] at Q; simp [Datum.isNaN] at Q
  | number s m i=>rw [hx] at Q; simp [Datum.isNaN] at Q
 rw [tkOk,e] at hk
 simp at hk
end Go.Proofs.YtbakanofkghmiaaGreat
namespace Go.Proofs.YtbakanofkghmiaaGreat
open Go.RowKit Ieee
set_option linter.unusedVariables false

theorem bS {B:Nat} {w0 w:World} {v:Value} {l:List Int} {s:Sr} (h:SrXE B w0 v l s w) (o:Obj):SrXE B w0 v l s (w.alloc o):=by
 have hB:=bY h.1.src
 exact ⟨⟨(src_alloc (src_refl h.1.src) o).1,h.1.a0,h.1.s0,h.1.s1,(yW _ _ ⟨B,1,none⟩ hB).trans h.1.c1,(yW _ _ ⟨B,2,none⟩ hB).trans h.1.c2⟩,zZ h.2 (bJ w o _)⟩
theorem cD {B:Nat} {w:World} {v:Value} {l:List Int} {s:Sr} (h:SrX B w v l s):SrXE B w v l s w:=⟨h,yS _ _⟩
def szF (l:List Int) (most:Int):Int:=if 1 + (l.length:Int) / 12 ≤ most then 1 + (l.length:Int) / 12 else most
theorem size_ex (B:Nat) (v:Value) (l:List Int) (most:Int) (s:Sr) (w:World) (h:SrX B w v l s) :
  Calls Tryz.prog 60 #[.pointer (some ⟨B,0,none⟩),.int .i64 most] w fun e w'=>e = .returned (.int .i64 (szF l most))∧w' = w:=by
 have c:=h.src.code
 obtain ⟨a,A,rfl,hl,_⟩:=h.src.rd
 clear h
 by_cases hm:1 + (l.length:Int) / 12 ≤ most
 ·rw [szF,if_pos hm]
  go_enter Tryz.func60,Tryz.ntmps60
  go_wp2_with fail
  all_goals go_ret
  all_goals first | exact ⟨rfl,rfl⟩ | exact ⟨zt (by omega),rfl⟩
 ·rw [szF,if_neg hm]
  go_enter Tryz.func60,Tryz.ntmps60
  go_wp2_with fail
  all_goals go_ret
  all_goals first | exact ⟨rfl,rfl⟩ | exact ⟨zt (by omega),rfl⟩
set_option maxHeartbeats 400000 in
theorem pick_ex (B g n:Nat) (v:Value) (l:List Int) (s:Sr) (ts:List ByteArray) (w:World) (h:SrX B w v l s) (hm:s.at_ ≤ 1000000000) (hg:g ≠ B) (hn:ts.length = n) (Q:1 ≤ n) (N:n ≤ 256) (hr:∀ k t,ts[k]? = some t→w.cell? ⟨g,k,none⟩ = some (.string t)) :
  Calls Tryz.prog 104 #[.pointer (some ⟨B,0,none⟩),.slice (some ⟨g,0,none⟩) n n] w fun e w'=>e = .returned (.string (ts.getD (nxF l n s).1.toNat ⟨#[]⟩))∧SrXE B w v l (nxF l n s).2 w':=by
 have HN:=hide (bd B v l n s w h hm (by omega) (by omega))
 have HR:=hide hr
 have X:((n:Int) == 0) = false:=by simp; omega
 obtain ⟨y0,y1⟩:=nx_bd (l:=l) (n:=n) (s:=s) (by omega)
 clear h hr
 generalize nxF l n s = hj at HN y0 y1 ⊢
 obtain ⟨y,s'⟩:=hj
 simp only at HN y0 y1 ⊢
 obtain ⟨k,rfl⟩:=Int.eq_ofNat_of_zero_le y0
 go_enter Tryz.func104,Tryz.ntmps104
 go_wp2_with fail
 refine (U HN).mono ?_
 rintro e w1 ⟨rfl,hE⟩
 have HE:=hide hE
 have hk:k < n:=by omega
 obtain ⟨t,ht⟩:∃ t,ts[k]? = some t:=⟨_,yI (by omega)⟩
 have hc:=hE.2.cell (U HR k t ht) (fun e=>hg (Option.some.inj e))
 have HT:Hid (ts.getD (k:Int).toNat ⟨#[]⟩ = t):=by show _ = _; rw [Int.toNat_natCast,List.getD_eq_getElem?_getD,ht]; rfl
 clear hE ht
 go_wp2_with fail
 go_ret
 rw [U HT]
 exact ⟨rfl,U HE⟩
def oddL:List Int:=[0,-1,1,2,63,64,65,4096,4097,9223372036854775807,-9223372036854775808,30]
set_option maxRecDepth 100000 in
set_option maxHeartbeats 800000 in
theorem odd_ex (B:Nat) (v:Value) (l:List Int) (s:Sr) (w:World) (h:SrX B w v l s) (hm:s.at_ ≤ 1000000000) :
  Calls Tryz.prog 162 #[.pointer (some ⟨B,0,none⟩)] w fun e w'=>e = .returned (.int .i64 (oddL.getD (nxF l 12 s).1.toNat 0))∧SrXE B w v l (nxF l 12 s).2 w':=by
 have hB:=bY h.src
 have HN:=hide (fun W hW=>bd B v l 12 s W hW hm (by omega) (by omega))
 have HX:=hide (bD w (oddL.map (.int .i64)) 3)
 have HA:=hide (fun o=>bS (cD h) o)
 obtain ⟨y0,y1⟩:=nx_bd (l:=l) (n:=12) (s:=s) (by omega)
 clear h
 generalize nxF l 12 s = hj at HN y0 y1 ⊢
 obtain ⟨y,s'⟩:=hj
 simp only at HN y0 y1 ⊢
 obtain ⟨k,rfl⟩:=Int.eq_ofNat_of_zero_le y0
 go_enter Tryz.func162,Tryz.ntmps162
 go_wp2_with fail
 refine (U HN _ (U HA _).1).mono ?_
 rintro e w1 ⟨rfl,hE⟩
 obtain ⟨t,ht⟩:∃ t,oddL[k]? = some t:=⟨_,yI (by show k < 12; omega)⟩
 have hc:=hE.2.cell (zq (U HX) k (u:=.int .i64 t) (by rw [List.getElem?_map,ht]; rfl)) (fun e=>by have:=Option.some.inj e; simp at this; omega)
 have HE:=hide (show SrXE B w v l s' w1 from ⟨hE.1,zZ (bJ w _ _) hE.2⟩)
 have HT:Hid (oddL.getD (k:Int).toNat 0 = t):=by show _ = _; rw [Int.toNat_natCast,List.getD_eq_getElem?_getD,ht]; rfl
 clear hE ht HN HX HA
 go_wp2_with fail
 go_ret
 rw [U HT]
 exact ⟨rfl,U HE⟩
def nuF (l:List Int) (s:Sr):Int × Sr :=
 if ((nxF l 4 s).1 == 3) = true then (oddL.getD (nxF l 12 (nxF l 4 s).2).1.toNat 0,(nxF l 12 (nxF l 4 s).2).2)
 else ((nxF l 400 (nxF l 4 s).2).1 - 100,(nxF l 400 (nxF l 4 s).2).2)
set_option maxRecDepth 100000 in
set_option maxHeartbeats 800000 in
theorem number_ex (B:Nat) (v:Value) (l:List Int) (s:Sr) (w:World) (h:SrX B w v l s) (hm:s.at_ ≤ 900000000) :
  Calls Tryz.prog 141 #[.pointer (some ⟨B,0,none⟩)] w fun e w'=>e = .returned (.int .i64 (nuF l s).1)∧SrXE B w v l (nuF l s).2 w':=by
 have hat:=aN l 4 s
 have HC:=hide (chance_ex B v l 4 s w h (by omega) (by omega) (by omega))
 have HO:=hide (fun W hW=>odd_ex B v l (nxF l 4 s).2 W hW (by omega))
 have HN:=hide (fun W hW=>bd B v l 400 (nxF l 4 s).2 W hW (by omega) (by omega) (by omega))
 have hbd:=nx_bd (l:=l) (n:=400) (s:=(nxF l 4 s).2) (by omega)
 clear h hat
 have e3:(4:Int) - 1 = 3:=rfl
 rw [nuF]
 generalize nxF l 400 (nxF l 4 s).2 = R2 at HN hbd ⊢
 generalize nxF l 12 (nxF l 4 s).2 = R3 at HO ⊢
 generalize nxF l 4 s = R1 at HC HO HN ⊢
 rw [e3] at HC
 by_cases X:(R1.1 == 3) = true
 ·rw [if_pos X]
  go_enter Tryz.func141,Tryz.ntmps141
  go_wp2_with fail
  refine (U HC).mono ?_
  rintro e w1 ⟨rfl,hE⟩
  have HE:=hide hE
  rw [X]
  clear hE HC e3 X
  go_wp2_with fail
  refine (U HO w1 (U HE).1).mono ?_
  rintro e w2 ⟨rfl,hE2⟩
  have ah:=hide hE2
  clear hE2
  go_wp2_with fail
  go_ret
  exact ⟨rfl,(U ah).1,zZ (U HE).2 (U ah).2⟩
 ·rw [if_neg X]
  have kw:(R1.1 == 3) = false:=by simpa using X
  have hw:IntKind.i64.wrap (R2.1 - 100) = R2.1 - 100:=by rw [IntKind.wrap_i64]; omega
  go_enter Tryz.func141,Tryz.ntmps141
  go_wp2_with fail
  refine (U HC).mono ?_
  rintro e w1 ⟨rfl,hE⟩
  have HE:=hide hE
  rw [kw]
  clear hE HC e3 X kw
  go_wp2_with fail
  refine (U HN w1 (U HE).1).mono ?_
  rintro e w2 ⟨rfl,hE2⟩
  have ah:=hide hE2
  clear hE2
  go_wp2_with fail
  go_ret
  exact ⟨rfl,(U ah).1,zZ (U HE).2 (U ah).2⟩
end Go.Proofs.YtbakanofkghmiaaGreat
namespace Go.Proofs.YtbakanofkghmiaaGreat
open Go.RowKit Ieee
set_option linter.unusedVariables false

def PEq (y z:Nat):Prop:=y = z ∨ (nanB y = true∧nanB z = true)
def fltL:List Nat:=[0,9223372036854775808,9221120237041090560,9218868437227405312,18442240474082181120,4598175219545276416,4636737291354636288,4636719699168591872,4687829947429945344,4687829956019879936,4591870180066957722,13830554455654793216,9223372036854775808,9094988921128908188,1]
theorem copysign_ex (w:World):Calls Tryz.prog 164 #[.float .f64 0,.float .f64 13830554455654793216] w fun e w'=>∃ y:Nat,e = .returned (.float .f64 y)∧y = 9223372036854775808∧w' = w:=by
 have Q:=fbits
 have N:=frombitsS
 go_enter Tryz.func164,Tryz.ntmps164
 go_wp2_with fail
 go_ret
 exact ⟨_,rfl,by kernel_rfl,rfl⟩
theorem nanOf_nan (W:World):nanB (nanOf W) = true:=by
 have h:nanOf W = (W.tape W.drawn (.nanBits .f64 0 0) % 2) * 2 ^ 63 + 0x7ff0000000000000 + 1 + (W.tape W.drawn (.nanBits .f64 0 0) / 2) % (2 ^ 52 - 1):=rfl
 rw [h]
 exact nan_drawn _
theorem float_rowX (k n y:Nat) (w:World) (t:TypeId) (h:k < 15) (hn:nanB n = true) (hy:y = 9223372036854775808) :
  ∃ z:Nat,PEq z (fltL.getD k 0)∧(w.alloc (.cells #[.float .f64 0,.float .f64 9223372036854775808,.float .f64 n,.float .f64 9218868437227405312,.float .f64 18442240474082181120,.float .f64 4598175219545276416,.float .f64 4636737291354636288,.float .f64 4636719699168591872,
   .float .f64 4687829947429945344,.float .f64 4687829956019879936,.float .f64 4591870180066957722,.float .f64 13830554455654793216,.float .f64 y,.float .f64 9094988921128908188,.float .f64 1] t)).cell? ⟨w.heap.size,k,none⟩ = some (.float .f64 z):=by
 rcases (show k = 0 ∨ k = 1 ∨ k = 2 ∨ k = 3 ∨ k = 4 ∨ k = 5 ∨ k = 6 ∨ k = 7 ∨ k = 8 ∨ k = 9 ∨ k = 10 ∨ k = 11 ∨ k = 12 ∨ k = 13 ∨ k = 14 by omega) with rfl | rfl | rfl | rfl | rfl | rfl | rfl | rfl | rfl | rfl | rfl | rfl | rfl | rfl | rfl
 all_goals first | exact ⟨_,.inr ⟨hn,by decide +kernel⟩,cell_of_row _ _ _ _ _ (0,0) (heap_alloc_new w _)⟩ | exact ⟨_,.inl rfl,cell_of_row _ _ _ _ _ (0,0) (heap_alloc_new w _)⟩ | exact ⟨_,.inl hy,cell_of_row _ _ _ _ _ (0,0) (heap_alloc_new w _)⟩
set_option maxRecDepth 100000 in
set_option maxHeartbeats 800000 in
theorem float_ex (B:Nat) (v:Value) (l:List Int) (s:Sr) (w:World) (h:SrX B w v l s) (hm:s.at_ ≤ 900000000) :
  Calls Tryz.prog 142 #[.pointer (some ⟨B,0,none⟩)] w fun e w'=>∃ y:Nat,e = .returned (.float .f64 y)∧PEq y (fltL.getD (nxF l 15 s).1.toNat 0)∧SrXE B w v l (nxF l 15 s).2 w':=by
 have HS:=hide h
 have hB:=bY h.src
 have HN:=hide (fun W hW=>bd B v l 15 s W hW (by omega) (by omega) (by omega))
 obtain ⟨y0,y1⟩:=nx_bd (l:=l) (n:=15) (s:=s) (by omega)
 clear h
 generalize nxF l 15 s = hj at HN y0 y1 ⊢
 obtain ⟨yy,s'⟩:=hj
 simp only at HN y0 y1 ⊢
 obtain ⟨k,rfl⟩:=Int.eq_ofNat_of_zero_le y0
 rw [Int.toNat_natCast]
 have e1:=neg_zero
 have e2:=one_zero
 have e3:=less_zero
 have e4:=zero_zero
 go_enter Tryz.func142,Tryz.ntmps142
 go_wp2_with (first | (go_at_call 163; refine (zero_any _).mono ?_; rintro e w' ⟨rfl,rfl⟩) | (go_at_call 164; refine (copysign_ex _).mono ?_; rintro e w' ⟨yc,rfl,rfl,rfl⟩))
 have hn:=nanOf_nan w'
 generalize nanOf w' = n0 at *
 refine (U HN _ (srX_drew (bS (cD (U HS)) _) 1).1).mono ?_
 rintro e w1 ⟨rfl,hE⟩
 obtain ⟨z,uI,hz⟩:=float_rowX k n0 9223372036854775808 w' 41 (by omega) hn rfl
 have HE:=hide (show SrXE B w' v l s' w1 from ⟨hE.1,zZ (zZ (bJ w' _ _) (gr_drewN _ 1 _)) hE.2⟩)
 have HZ:=hide uI
 have hc:=hE.2.cell (show (World.drewN _ 1).cell? _ = _ from hz) (by simp; omega)
 clear hE hz e1 e2 e3 e4 uI
 go_wp2_with fail
 go_ret
 exact ⟨_,rfl,U HZ,U HE⟩
set_option maxHeartbeats 400000 in
theorem tag_ex (B:Nat) (v:Value) (l:List Int) (s:Sr) (w:World) (h:SrX B w v l s) (hm:s.at_ ≤ 1000000000) :
  Calls Tryz.prog 143 #[.pointer (some ⟨B,0,none⟩)] w fun e w'=>e = .returned (.string (tags8.getD (nxF l 8 s).1.toNat ⟨#[]⟩))∧SrXE B w v l (nxF l 8 s).2 w':=by
 have HS:=hide h
 have hB:=bY h.src
 clear h
 have HX:=hide (bD w (tags8.map .string) 9)
 go_enter Tryz.func143,Tryz.ntmps143
 go_wp2_with fail
 refine (pick_ex B w.heap.size 8 v l s tags8 _ (bS (cD (U HS)) _).1 hm (by omega) rfl (by omega) (by omega) (fun k t ht=>zq (U HX) k (by rw [List.getElem?_map,ht]; rfl))).mono ?_
 rintro e w1 ⟨rfl,hE⟩
 have HE:=hide (show SrXE B w v l (nxF l (8:Nat) s).2 w1 from ⟨hE.1,zZ (bJ w _ _) hE.2⟩)
 clear hE HX
 go_wp2_with fail
 go_ret
 exact ⟨rfl,U HE⟩
end Go.Proofs.YtbakanofkghmiaaGreat
namespace Go.Proofs.YtbakanofkghmiaaGreat
open Go.RowKit
def DrOk (c:Cm):Prop:=c.g.size ≤ 20∧PrW c.p
structure CmEq (c d:Cm):Prop where
 k:c.k = d.k
 s:c.s = d.s
 t:c.t = d.t
 l:c.l = d.l
 q:c.q = d.q
 i:c.i = d.i
 p:PEq c.p d.p
 g:c.g = d.g
theorem nu_at (l:List Int) (s:Sr):(nuF l s).2.at_ ≤ s.at_ + 6:=by
 have Q:=aN l 4 s
 rw [nuF]; split
 ·have:=aN l 12 (nxF l 4 s).2
  show (nxF l 12 (nxF l 4 s).2).2.at_ ≤ s.at_ + 6; omega
 ·have:=aN l 400 (nxF l 4 s).2
  show (nxF l 400 (nxF l 4 s).2).2.at_ ≤ s.at_ + 6; omega
def rawF (l:List Int) (s:Sr):Cm × Sr :=
 let r1:=nxF l 6 s
 let r2:=nxF l 4 r1.2
 let r3:=nxF l 7 r2.2
 let r4:=nxF l 3 r3.2
 let r5:=nuF l r4.2
 let r6:=nxF l 3 r5.2
 let r7:=nxF l 15 r6.2
 let r8:=nxF l 8 r7.2
 (⟨r1.1,r2.1,r3.1,r4.1,r5.1,r6.1,fltL.getD r7.1.toNat 0,tags8.getD r8.1.toNat ⟨#[]⟩⟩,r8.2)
theorem raw_at (l:List Int) (s:Sr):(rawF l s).2.at_ ≤ s.at_ + 27:=by
 rw [rawF]
 have Q:=aN l 6 s
 have N:=aN l 4 (nxF l 6 s).2
 have h3:=aN l 7 (nxF l 4 (nxF l 6 s).2).2
 have h4:=aN l 3 (nxF l 7 (nxF l 4 (nxF l 6 s).2).2).2
 have h5:=nu_at l (nxF l 3 (nxF l 7 (nxF l 4 (nxF l 6 s).2).2).2).2
 have h6:=aN l 3 (nuF l (nxF l 3 (nxF l 7 (nxF l 4 (nxF l 6 s).2).2).2).2).2
 have h7:=aN l 15 (nxF l 3 (nuF l (nxF l 3 (nxF l 7 (nxF l 4 (nxF l 6 s).2).2).2).2).2).2
 have h8:=aN l 8 (nxF l 15 (nxF l 3 (nuF l (nxF l 3 (nxF l 7 (nxF l 4 (nxF l 6 s).2).2).2).2).2).2).2
 simp only
 omega
structure DrY (B b:Nat) (w:World) (v:Value) (l:List Int) (s:Sr) (W:World):Prop where
 e:SrXE B w v l s W
 t:W.there b 0 8
theorem bC {B:Nat} {w W W':World} {v:Value} {l:List Int} {s s':Sr} (h:DrY B w.heap.size w v l s W) (hB:B < w.heap.size) (h':SrXE B W v l s' W') (hW:w.heap.size < W.heap.size):DrY B w.heap.size w v l s' W' :=
 ⟨⟨h'.1,zZ h.e.2 h'.2⟩,bH h.t h'.2 hW (fun e=>by have:=Option.some.inj e; omega)⟩
theorem cQ {B b o:Nat} {w W:World} {v:Value} {l:List Int} {s:Sr} (hv:l ≠ []→∃ k,v.ownBlock = some k∧k < w.heap.size) (h:SrXE B w v l s W) (hB:B < w.heap.size) (X:w.heap.size ≤ b) (vs:List Value):SrXE B w v l s (W.setCells b o vs):=by
 have Q:=srcE_set (b:=b) (o:=o) hv ⟨h.1.src,h.2⟩ hB X vs
 have g:=gr_setsD b vs o W
 have xB:some B ≠ some b:=fun e=>by have:=Option.some.inj e; omega
 have e:∀ i,(W.setCells b o vs).cell? ⟨B,i,none⟩ = W.cell? ⟨B,i,none⟩:=fun i=>yR (a:=⟨B,i,none⟩) (g.block B (bY h.1.src) xB)
 exact ⟨⟨Q.1,h.1.a0,h.1.s0,h.1.s1,(e 1).trans h.1.c1,(e 2).trans h.1.c2⟩,Q.2⟩
set_option maxRecDepth 100000 in
set_option maxHeartbeats 3200000 in
theorem rawCmd_ex (B:Nat) (v:Value) (l:List Int) (s:Sr) (w:World) (h:SrX B w v l s) (hm:s.at_ ≤ 800000000) :
  Calls Tryz.prog 103 #[.pointer (some ⟨B,0,none⟩)] w fun e w'=>∃ c:Cm,e = .returned (.agg c.vs.toArray)∧CmEq c (rawF l s).1∧SrXE B w v l (rawF l s).2 w':=by
 generalize Q:nxF l 6 s = R1
 obtain ⟨y1,s1⟩:=R1
 have a1:=aN l 6 s
 rw [Q] at a1
 simp only at a1
 generalize N:nxF l 4 s1 = R2
 obtain ⟨y2,s2⟩:=R2
 have a2:=aN l 4 s1
 rw [N] at a2
 simp only at a2
 generalize h3:nxF l 7 s2 = R3
 obtain ⟨y3,s3⟩:=R3
 have a3:=aN l 7 s2
 rw [h3] at a3
 simp only at a3
 generalize h4:nxF l 3 s3 = R4
 obtain ⟨y4,s4⟩:=R4
 have a4:=aN l 3 s3
 rw [h4] at a4
 simp only at a4
 generalize h5:nuF l s4 = R5
 obtain ⟨y5,s5⟩:=R5
 have a5:=nu_at l s4
 rw [h5] at a5
 simp only at a5
 generalize h6:nxF l 3 s5 = R6
 obtain ⟨y6,s6⟩:=R6
 have a6:=aN l 3 s5
 rw [h6] at a6
 simp only at a6
 generalize h7:nxF l 15 s6 = R7
 obtain ⟨y7,s7⟩:=R7
 have a7:=aN l 15 s6
 rw [h7] at a7
 simp only at a7
 generalize h8:nxF l 8 s7 = R8
 obtain ⟨y8,s8⟩:=R8
 have a8:=aN l 8 s7
 rw [h8] at a8
 simp only at a8
 have oF:Hid (rawF l s = (⟨y1,y2,y3,y4,y5,y6,fltL.getD y7.toNat 0,tags8.getD y8.toNat ⟨#[]⟩⟩,s8)):=by show _ = _; simp only [rawF,Q,N,h3,h4,h5,h6,h7,h8]
 have C1:=hide (fun W hW=>bd B v l 6 s W hW (by omega) (by omega) (by omega))
 simp only [Q] at C1
 have C2:=hide (fun W hW=>bd B v l 4 s1 W hW (by omega) (by omega) (by omega))
 simp only [N] at C2
 have C3:=hide (fun W hW=>bd B v l 7 s2 W hW (by omega) (by omega) (by omega))
 simp only [h3] at C3
 have C4:=hide (fun W hW=>bd B v l 3 s3 W hW (by omega) (by omega) (by omega))
 simp only [h4] at C4
 have C5:=hide (fun W hW=>number_ex B v l s4 W hW (by omega))
 simp only [h5] at C5
 have C6:=hide (fun W hW=>bd B v l 3 s5 W hW (by omega) (by omega) (by omega))
 simp only [h6] at C6
 have C7:=hide (fun W hW=>float_ex B v l s6 W hW (by omega))
 simp only [h7] at C7
 have C8:=hide (fun W hW=>tag_ex B v l s7 W hW (by omega))
 simp only [h8] at C8
 have HV:=hide (src_far h.src)
 have hB:=bY h.src
 have oB:Hid (DrY B w.heap.size w v l s (w.alloc (Obj.cells #[.int .i64 0,.int .i64 0,.int .i64 0,.int .i64 0,.int .i64 0,.int .i64 0,.float .f64 0,.string ⟨#[]⟩] 43))):=⟨bS (cD h) _,(bD w [.int .i64 0,.int .i64 0,.int .i64 0,.int .i64 0,.int .i64 0,.int .i64 0,.float .f64 0,.string ⟨#[]⟩] 43).t⟩
 have kO:w.heap.size < (w.alloc (Obj.cells #[.int .i64 0,.int .i64 0,.int .i64 0,.int .i64 0,.int .i64 0,.int .i64 0,.float .f64 0,.string ⟨#[]⟩] 43)).heap.size:=by simp
 rw [U oF]
 clear h Q N h3 h4 h5 h6 h7 h8 a1 a2 a3 a4 a5 a6 a7 a8 oF
 generalize tags8.getD y8.toNat ⟨#[]⟩ = O at C8 ⊢
 generalize fltL.getD y7.toNat 0 = p0 at C7 ⊢
 go_enter Tryz.func103,Tryz.ntmps103
 go_wp2_with fail
 generalize (w.alloc (Obj.cells #[.int .i64 0,.int .i64 0,.int .i64 0,.int .i64 0,.int .i64 0,.int .i64 0,.float .f64 0,.string ⟨#[]⟩] 43)) = W0 at oB kO ⊢
 refine (U C1 W0 (U oB).e.1).mono ?_
 rintro e W1 ⟨rfl,hE⟩
 have qZ:=hide (bC (U oB) hB hE kO)
 have xC:w.heap.size < W1.heap.size:=yK kO hE.2.size
 clear hE oB kO C1
 go_wp2_with fail
 refine (U C2 W1 (U qZ).e.1).mono ?_
 rintro e W2 ⟨rfl,hE⟩
 have pq:=hide (bC (U qZ) hB hE xC)
 have ua:w.heap.size < W2.heap.size:=yK xC hE.2.size
 clear hE qZ xC C2
 go_wp2_with fail
 refine (U C3 W2 (U pq).e.1).mono ?_
 rintro e W3 ⟨rfl,hE⟩
 have HD3:=hide (bC (U pq) hB hE ua)
 have jd:w.heap.size < W3.heap.size:=yK ua hE.2.size
 clear hE pq ua C3
 go_wp2_with fail
 refine (U C4 W3 (U HD3).e.1).mono ?_
 rintro e W4 ⟨rfl,hE⟩
 have HD4:=hide (bC (U HD3) hB hE jd)
 have pl:w.heap.size < W4.heap.size:=yK jd hE.2.size
 clear hE HD3 jd C4
 go_wp2_with fail
 refine (U C5 W4 (U HD4).e.1).mono ?_
 rintro e W5 ⟨rfl,hE⟩
 have HD5:=hide (bC (U HD4) hB hE pl)
 have hs5:w.heap.size < W5.heap.size:=yK pl hE.2.size
 clear hE HD4 pl C5
 go_wp2_with fail
 refine (U C6 W5 (U HD5).e.1).mono ?_
 rintro e W6 ⟨rfl,hE⟩
 have HD6:=hide (bC (U HD5) hB hE hs5)
 have hs6:w.heap.size < W6.heap.size:=yK hs5 hE.2.size
 clear hE HD5 hs5 C6
 go_wp2_with fail
 refine (U C7 W6 (U HD6).e.1).mono ?_
 rintro e W7 ⟨p7,rfl,hp7,hE⟩
 have HD7:=hide (bC (U HD6) hB hE hs6)
 have hs7:w.heap.size < W7.heap.size:=yK hs6 hE.2.size
 have HP7:=hide hp7
 clear hp7
 clear hE HD6 hs6 C7
 go_wp2_with fail
 refine (U C8 W7 (U HD7).e.1).mono ?_
 rintro e W8 ⟨rfl,hE⟩
 have HD8:=hide (bC (U HD7) hB hE hs7)
 have hs8:w.heap.size < W8.heap.size:=yK hs7 hE.2.size
 clear hE HD7 hs7 C8
 have jF:=hide (U HD8).t
 have uz:Hid ((W8.setCells w.heap.size 0 [.int .i64 y1,.int .i64 y2,.int .i64 y3,.int .i64 y4,.int .i64 y5,.int .i64 y6,.float .f64 p7,.string O]).rangeAt w.heap.size 0 [.int .i64 y1,.int .i64 y2,.int .i64 y3,.int .i64 y4,.int .i64 y5,.int .i64 y6,.float .f64 p7,.string O]):=yY _ _ _ _ (U HD8).t
 have qL:Hid (SrXE B w v l s8 (W8.setCells w.heap.size 0 [.int .i64 y1,.int .i64 y2,.int .i64 y3,.int .i64 y4,.int .i64 y5,.int .i64 y6,.float .f64 p7,.string O])):=cQ (U HV) (U HD8).e hB (Nat.le_refl _) _
 try dsimp only
 rename_i K1 pG K2 qP
 refine qP _ _ ?_
 have xv:=hide pG
 clear pG qP
 refine wpList_step fun K3 vR=>?_
 have vz:=hide vR
 clear vR
 rw [if_pos (by rfl)]
 unfold Oper.wp
 go_simp
 refine U vz _ _ ?_
 clear vz
 refine wpList_store_mid rfl 43 (.tmp 2) (.tmp 19) rfl w.heap.size 0 #[.int .i64 y1,.int .i64 y2,.int .i64 y3,.int .i64 y4,.int .i64 y5,.int .i64 y6,.float .f64 p7,.string O] rfl rfl (U jF) (by kernel_rfl) (by simp [Value.oneCell']) ?_
 change wpList _ _ _ _ _ (W8.setCells w.heap.size 0 [.int .i64 y1,.int .i64 y2,.int .i64 y3,.int .i64 y4,.int .i64 y5,.int .i64 y6,.float .f64 p7,.string O])
 generalize W8.setCells w.heap.size 0 [.int .i64 y1,.int .i64 y2,.int .i64 y3,.int .i64 y4,.int .i64 y5,.int .i64 y6,.float .f64 p7,.string O] = WF at uz qL ⊢
 have pG:=U xv
 go_wp2_with fail
 have d0:=U uz 0 _ rfl
 have d1:=U uz 1 _ rfl
 have d2:=U uz 2 _ rfl
 have d3:=U uz 3 _ rfl
 have d4:=U uz 4 _ rfl
 have d5:=U uz 5 _ rfl
 have d6:=U uz 6 _ rfl
 have d7:=U uz 7 _ rfl
 simp only [Nat.zero_add] at d0 d1 d2 d3 d4 d5 d6 d7
 refine bodyPost_ret (by simp [results,Tryz.results103,go_sem,d0,d1,d2,d3,d4,d5,d6,d7]; try rfl) rfl ?_
 exact ⟨⟨y1,y2,y3,y4,y5,y6,p7,O⟩,rfl,⟨rfl,rfl,rfl,rfl,rfl,rfl,U HP7,rfl⟩,U qL⟩
end Go.Proofs.YtbakanofkghmiaaGreat
