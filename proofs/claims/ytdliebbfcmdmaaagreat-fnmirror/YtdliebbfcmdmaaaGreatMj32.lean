/-
  A command drawn out of the source, raw, exactly (but for the bits of a price that is no number): proved by walking the method.
-/
import Derived.Test.YtdliebbfcmdmaaaGreatMj31
set_option linter.unusedVariables false
set_option maxHeartbeats 6400000
set_option maxRecDepth 100000
namespace Go.Proofs.YtdliebbfcmdmaaaGreat
open Go.RowKit
structure CmEq (c d:Cm):Prop where
 k:c.k = d.k
 s:c.s = d.s
 t:c.t = d.t
 l:c.l = d.l
 q:c.q = d.q
 i:c.i = d.i
 p:PEq c.p d.p
 g:c.g = d.g
theorem nu_at (l:List Int) (s:Sr):(nuF l s).2.at_ ≤ s.at_ + 6:=by
 have Q:=aC l 4 s
 rw [nuF]; split
 ·have:=aC l 12 (nxF l 4 s).2
  show (nxF l 12 (nxF l 4 s).2).2.at_ ≤ s.at_ + 6; omega
 ·have:=aC l 400 (nxF l 4 s).2
  show (nxF l 400 (nxF l 4 s).2).2.at_ ≤ s.at_ + 6; omega
def rawF (l:List Int) (s:Sr):Cm × Sr :=
 let r1:=nxF l 6 s
 let r2:=nxF l 4 r1.2
 let r3:=nxF l 7 r2.2
 let r4:=nxF l 3 r3.2
 let r5:=nuF l r4.2
 let r6:=nxF l 3 r5.2
 let r7:=nxF l 15 r6.2
 let r8:=nxF l 8 r7.2
 (⟨r1.1,r2.1,r3.1,r4.1,r5.1,r6.1,fltL.getD r7.1.toNat 0,tags8.getD r8.1.toNat ⟨#[]⟩⟩,r8.2)
theorem raw_at (l:List Int) (s:Sr):(rawF l s).2.at_ ≤ s.at_ + 27:=by
 rw [rawF]
 have Q:=aC l 6 s
 have N:=aC l 4 (nxF l 6 s).2
 have h3:=aC l 7 (nxF l 4 (nxF l 6 s).2).2
 have h4:=aC l 3 (nxF l 7 (nxF l 4 (nxF l 6 s).2).2).2
 have h5:=nu_at l (nxF l 3 (nxF l 7 (nxF l 4 (nxF l 6 s).2).2).2).2
 have h6:=aC l 3 (nuF l (nxF l 3 (nxF l 7 (nxF l 4 (nxF l 6 s).2).2).2).2).2
 have h7:=aC l 15 (nxF l 3 (nuF l (nxF l 3 (nxF l 7 (nxF l 4 (nxF l 6 s).2).2).2).2).2).2
 have h8:=aC l 8 (nxF l 15 (nxF l 3 (nuF l (nxF l 3 (nxF l 7 (nxF l 4 (nxF l 6 s).2).2).2).2).2).2).2
 simp only
 omega
structure DrY (B b:Nat) (w:World) (v:Value) (l:List Int) (s:Sr) (W:World):Prop where
 e:SrXE B w v l s W
 t:W.there b 0 8
theorem bi {B:Nat} {w W W':World} {v:Value} {l:List Int} {s s':Sr} (h:DrY B w.heap.size w v l s W) (hB:B < w.heap.size) (h':SrXE B W v l s' W') (hW:w.heap.size < W.heap.size):DrY B w.heap.size w v l s' W' :=
 ⟨⟨h'.1,zL h.e.2 h'.2⟩,zZ h.t h'.2 hW (fun e=>by have:=Option.some.inj e; omega)⟩
theorem cC {B b o:Nat} {w W:World} {v:Value} {l:List Int} {s:Sr} (hv:l ≠ []→∃ k,v.ownBlock = some k∧k < w.heap.size) (h:SrXE B w v l s W) (hB:B < w.heap.size) (L:w.heap.size ≤ b) (vs:List Value):SrXE B w v l s (W.setCells b o vs):=by
 have Q:=srcE_set (b:=b) (o:=o) hv ⟨h.1.src,h.2⟩ hB L vs
 have g:=gr_setsD b vs o W
 have xB:some B ≠ some b:=fun e=>by have:=Option.some.inj e; omega
 have e:∀ i,(W.setCells b o vs).cell? ⟨B,i,none⟩ = W.cell? ⟨B,i,none⟩:=fun i=>yQ (a:=⟨B,i,none⟩) (g.block B (bL h.1.src) xB)
 exact ⟨⟨Q.1,h.1.a0,h.1.s0,h.1.s1,(e 1).trans h.1.c1,(e 2).trans h.1.c2⟩,Q.2⟩
set_option maxRecDepth 100000 in
set_option maxHeartbeats 3200000 in
theorem rawCmd_ex (B:Nat) (v:Value) (l:List Int) (s:Sr) (w:World) (h:SrX B w v l s) (hm:s.at_ ≤ 800000000) :
  Calls Tryz.prog 19 #[.pointer (some ⟨B,0,none⟩)] w fun e w'=>∃ c:Cm,e = .returned (.agg c.vs.toArray)∧CmEq c (rawF l s).1∧SrXE B w v l (rawF l s).2 w':=by
 generalize Q:nxF l 6 s = R1
 obtain ⟨y1,s1⟩:=R1
 have a1:=aC l 6 s
 rw [Q] at a1
 simp only at a1
 generalize N:nxF l 4 s1 = R2
 obtain ⟨y2,s2⟩:=R2
 have a2:=aC l 4 s1
 rw [N] at a2
 simp only at a2
 generalize h3:nxF l 7 s2 = R3
 obtain ⟨y3,s3⟩:=R3
 have a3:=aC l 7 s2
 rw [h3] at a3
 simp only at a3
 generalize h4:nxF l 3 s3 = R4
 obtain ⟨y4,s4⟩:=R4
 have a4:=aC l 3 s3
 rw [h4] at a4
 simp only at a4
 generalize h5:nuF l s4 = R5
 obtain ⟨y5,s5⟩:=R5
 have a5:=nu_at l s4
 rw [h5] at a5
 simp only at a5
 generalize h6:nxF l 3 s5 = R6
 obtain ⟨y6,s6⟩:=R6
 have a6:=aC l 3 s5
 rw [h6] at a6
 simp only at a6
 generalize h7:nxF l 15 s6 = R7
 obtain ⟨y7,s7⟩:=R7
 have a7:=aC l 15 s6
 rw [h7] at a7
 simp only at a7
 generalize h8:nxF l 8 s7 = R8
 obtain ⟨y8,s8⟩:=R8
 have a8:=aC l 8 s7
 rw [h8] at a8
 simp only at a8
 have kT:Hid (rawF l s = (⟨y1,y2,y3,y4,y5,y6,fltL.getD y7.toNat 0,tags8.getD y8.toNat ⟨#[]⟩⟩,s8)):=by show _ = _; simp only [rawF,Q,N,h3,h4,h5,h6,h7,h8]
 have C1:=hide (fun W hW=>aS B v l 6 s W hW (by omega) (by omega) (by omega))
 simp only [Q] at C1
 have C2:=hide (fun W hW=>aS B v l 4 s1 W hW (by omega) (by omega) (by omega))
 simp only [N] at C2
 have C3:=hide (fun W hW=>aS B v l 7 s2 W hW (by omega) (by omega) (by omega))
 simp only [h3] at C3
 have C4:=hide (fun W hW=>aS B v l 3 s3 W hW (by omega) (by omega) (by omega))
 simp only [h4] at C4
 have C5:=hide (fun W hW=>number_ex B v l s4 W hW (by omega))
 simp only [h5] at C5
 have C6:=hide (fun W hW=>aS B v l 3 s5 W hW (by omega) (by omega) (by omega))
 simp only [h6] at C6
 have C7:=hide (fun W hW=>float_ex B v l s6 W hW (by omega))
 simp only [h7] at C7
 have C8:=hide (fun W hW=>tag_ex B v l s7 W hW (by omega))
 simp only [h8] at C8
 have HV:=hide (src_far h.src)
 have hB:=bL h.src
 have ow:Hid (DrY B w.heap.size w v l s (w.alloc (Obj.cells #[.int .i64 0,.int .i64 0,.int .i64 0,.int .i64 0,.int .i64 0,.int .i64 0,.float .f64 0,.string ⟨#[]⟩] 27))):=⟨bh (bB h) _,(bG w [.int .i64 0,.int .i64 0,.int .i64 0,.int .i64 0,.int .i64 0,.int .i64 0,.float .f64 0,.string ⟨#[]⟩] 27).t⟩
 have oS:w.heap.size < (w.alloc (Obj.cells #[.int .i64 0,.int .i64 0,.int .i64 0,.int .i64 0,.int .i64 0,.int .i64 0,.float .f64 0,.string ⟨#[]⟩] 27)).heap.size:=by simp
 rw [U kT]
 clear h Q N h3 h4 h5 h6 h7 h8 a1 a2 a3 a4 a5 a6 a7 a8 kT
 generalize tags8.getD y8.toNat ⟨#[]⟩ = O at C8 ⊢
 generalize fltL.getD y7.toNat 0 = p0 at C7 ⊢
 go_enter Tryz.func19,Tryz.ntmps19
 go_wp2_with fail
 generalize (w.alloc (Obj.cells #[.int .i64 0,.int .i64 0,.int .i64 0,.int .i64 0,.int .i64 0,.int .i64 0,.float .f64 0,.string ⟨#[]⟩] 27)) = W0 at ow oS ⊢
 refine (U C1 W0 (U ow).e.1).mono ?_
 rintro e W1 ⟨rfl,hE⟩
 have qV:=hide (bi (U ow) hB hE oS)
 have xA:w.heap.size < W1.heap.size:=yJ oS hE.2.size
 clear hE ow oS C1
 go_wp2_with fail
 refine (U C2 W1 (U qV).e.1).mono ?_
 rintro e W2 ⟨rfl,hE⟩
 have pl:=hide (bi (U qV) hB hE xA)
 have uc:w.heap.size < W2.heap.size:=yJ xA hE.2.size
 clear hE qV xA C2
 go_wp2_with fail
 refine (U C3 W2 (U pl).e.1).mono ?_
 rintro e W3 ⟨rfl,hE⟩
 have HD3:=hide (bi (U pl) hB hE uc)
 have qG:w.heap.size < W3.heap.size:=yJ uc hE.2.size
 clear hE pl uc C3
 go_wp2_with fail
 refine (U C4 W3 (U HD3).e.1).mono ?_
 rintro e W4 ⟨rfl,hE⟩
 have HD4:=hide (bi (U HD3) hB hE qG)
 have hs4:w.heap.size < W4.heap.size:=yJ qG hE.2.size
 clear hE HD3 qG C4
 go_wp2_with fail
 refine (U C5 W4 (U HD4).e.1).mono ?_
 rintro e W5 ⟨rfl,hE⟩
 have HD5:=hide (bi (U HD4) hB hE hs4)
 have pe:w.heap.size < W5.heap.size:=yJ hs4 hE.2.size
 clear hE HD4 hs4 C5
 go_wp2_with fail
 refine (U C6 W5 (U HD5).e.1).mono ?_
 rintro e W6 ⟨rfl,hE⟩
 have HD6:=hide (bi (U HD5) hB hE pe)
 have hs6:w.heap.size < W6.heap.size:=yJ pe hE.2.size
 clear hE HD5 pe C6
 go_wp2_with fail
 refine (U C7 W6 (U HD6).e.1).mono ?_
 rintro e W7 ⟨p7,rfl,hp7,hE⟩
 have HD7:=hide (bi (U HD6) hB hE hs6)
 have hs7:w.heap.size < W7.heap.size:=yJ hs6 hE.2.size
 have HP7:=hide hp7
 clear hp7
 clear hE HD6 hs6 C7
 go_wp2_with fail
 refine (U C8 W7 (U HD7).e.1).mono ?_
 rintro e W8 ⟨rfl,hE⟩
 have HD8:=hide (bi (U HD7) hB hE hs7)
 have hs8:w.heap.size < W8.heap.size:=yJ hs7 hE.2.size
 clear hE HD7 hs7 C8
 have jF:=hide (U HD8).t
 have uP:Hid ((W8.setCells w.heap.size 0 [.int .i64 y1,.int .i64 y2,.int .i64 y3,.int .i64 y4,.int .i64 y5,.int .i64 y6,.float .f64 p7,.string O]).rangeAt w.heap.size 0 [.int .i64 y1,.int .i64 y2,.int .i64 y3,.int .i64 y4,.int .i64 y5,.int .i64 y6,.float .f64 p7,.string O]):=yX _ _ _ _ (U HD8).t
 have kf:Hid (SrXE B w v l s8 (W8.setCells w.heap.size 0 [.int .i64 y1,.int .i64 y2,.int .i64 y3,.int .i64 y4,.int .i64 y5,.int .i64 y6,.float .f64 p7,.string O])):=cC (U HV) (U HD8).e hB (Nat.le_refl _) _
 try dsimp only
 rename_i K1 pB K2 qO
 refine qO _ _ ?_
 have xu:=hide pB
 clear pB qO
 refine wpList_step fun K3 vT=>?_
 have vA:=hide vT
 clear vT
 rw [if_pos (by rfl)]
 unfold Oper.wp
 go_simp
 refine U vA _ _ ?_
 clear vA
 refine wpList_store_mid rfl 27 (.tmp 2) (.tmp 19) rfl w.heap.size 0 #[.int .i64 y1,.int .i64 y2,.int .i64 y3,.int .i64 y4,.int .i64 y5,.int .i64 y6,.float .f64 p7,.string O] rfl rfl (U jF) (by kernel_rfl) (by simp [Value.oneCell']) ?_
 change wpList _ _ _ _ _ (W8.setCells w.heap.size 0 [.int .i64 y1,.int .i64 y2,.int .i64 y3,.int .i64 y4,.int .i64 y5,.int .i64 y6,.float .f64 p7,.string O])
 generalize W8.setCells w.heap.size 0 [.int .i64 y1,.int .i64 y2,.int .i64 y3,.int .i64 y4,.int .i64 y5,.int .i64 y6,.float .f64 p7,.string O] = WF at uP kf ⊢
 have pB:=U xu
 go_wp2_with fail
 have d0:=U uP 0 _ rfl
 have d1:=U uP 1 _ rfl
 have d2:=U uP 2 _ rfl
 have d3:=U uP 3 _ rfl
 have d4:=U uP 4 _ rfl
 have d5:=U uP 5 _ rfl
 have d6:=U uP 6 _ rfl
 have d7:=U uP 7 _ rfl
 simp only [Nat.zero_add] at d0 d1 d2 d3 d4 d5 d6 d7
 refine bodyPost_ret (by simp [results,Tryz.results19,go_sem,d0,d1,d2,d3,d4,d5,d6,d7]; try rfl) rfl ?_
 exact ⟨⟨y1,y2,y3,y4,y5,y6,p7,O⟩,rfl,⟨rfl,rfl,rfl,rfl,rfl,rfl,U HP7,rfl⟩,U kf⟩
def PrO (k a b c:Nat):Prop:=∀ W:World,(convert 3 25 (H k)).run Tryz.prog W = .ok (yj a) W∧(binOp .quo 25 (yj a) (yj 4616189618054758400)).run Tryz.prog W = .ok (yj b) W∧(binOp .add 25 (yj 4636666922610458624) (yj b)).run Tryz.prog W = .ok (yj c) W
theorem prO_of {k a b c:Nat} (Q:∀ W:World,(convert 3 25 (H k)).run Tryz.prog W = .ok (yj a) W) (N:FloatKind.f64.format.div a 4616189618054758400 = some b) (h3:FloatKind.f64.format.add 4636666922610458624 b = some c):PrO k a b c :=
 fun W=>⟨Q W,by simp [binOp,Op.floatArith,N],by simp [binOp,Op.floatArith,h3]⟩
theorem prO_0:PrO 0 0 0 4636666922610458624:=prO_of (fun W=>by kernel_rfl) (by kernel_rfl) (by kernel_rfl)
theorem prO_1:PrO 1 4607182418800017408 4598175219545276416 4636684514796503040:=prO_of (fun W=>by kernel_rfl) (by kernel_rfl) (by kernel_rfl)
theorem prO_2:PrO 2 4611686018427387904 4602678819172646912 4636702106982547456:=prO_of (fun W=>by kernel_rfl) (by kernel_rfl) (by kernel_rfl)
theorem prO_3:PrO 3 4613937818241073152 4604930618986332160 4636719699168591872:=prO_of (fun W=>by kernel_rfl) (by kernel_rfl) (by kernel_rfl)
theorem prO_4:PrO 4 4616189618054758400 4607182418800017408 4636737291354636288:=prO_of (fun W=>by kernel_rfl) (by kernel_rfl) (by kernel_rfl)
theorem prO_5:PrO 5 4617315517961601024 4608308318706860032 4636754883540680704:=prO_of (fun W=>by kernel_rfl) (by kernel_rfl) (by kernel_rfl)
theorem prO_6:PrO 6 4618441417868443648 4609434218613702656 4636772475726725120:=prO_of (fun W=>by kernel_rfl) (by kernel_rfl) (by kernel_rfl)
theorem prO_7:PrO 7 4619567317775286272 4610560118520545280 4636790067912769536:=prO_of (fun W=>by kernel_rfl) (by kernel_rfl) (by kernel_rfl)
theorem prO_8:PrO 8 4620693217682128896 4611686018427387904 4636807660098813952:=prO_of (fun W=>by kernel_rfl) (by kernel_rfl) (by kernel_rfl)
def tag3:List ByteArray:=[⟨#[]⟩,⟨#[97]⟩,⟨#[100,101,115,107,32,55]⟩]
theorem tag3_len:∀ s ∈ tag3,s.size ≤ 20:=by decide +kernel
def tyL:List Int:=[1,1,1,2,3,4,5,5]
def prL:List Nat:=[4636666922610458624,4636684514796503040,4636702106982547456,4636719699168591872,4636737291354636288,4636754883540680704,4636772475726725120,4636790067912769536,4636807660098813952]
theorem prO_ex (k:Nat) (h:k < 9):∃ a b,PrO k a b (prL.getD k 0):=by
 rcases (by omega:k = 0 ∨ k = 1 ∨ k = 2 ∨ k = 3 ∨ k = 4 ∨ k = 5 ∨ k = 6 ∨ k = 7 ∨ k = 8) with rfl | rfl | rfl | rfl | rfl | rfl | rfl | rfl | rfl
 ·exact ⟨_,_,prO_0⟩
 ·exact ⟨_,_,prO_1⟩
 ·exact ⟨_,_,prO_2⟩
 ·exact ⟨_,_,prO_3⟩
 ·exact ⟨_,_,prO_4⟩
 ·exact ⟨_,_,prO_5⟩
 ·exact ⟨_,_,prO_6⟩
 ·exact ⟨_,_,prO_7⟩
 ·exact ⟨_,_,prO_8⟩
def cpF (l:List Int) (X:Int) (s:Sr):Nat × Sr:=if X = 2 then (0,s) else (prL.getD (nxF l 9 s).1.toNat 0,(nxF l 9 s).2)
def clF (l:List Int) (X:Int) (s:Sr):Int × Sr:=if aA X = true then (if (nxF l 3 s).1 = 2 then 1 else 0,(nxF l 3 s).2) else (0,s)
def cnF (l:List Int) (s:Sr):Cm × Sr :=
 let a:=nxF l 2 s
 let b:=nxF l 8 a.2
 let d:=nxF l 12 b.2
 let g:=nxF l 3 d.2
 let X:=tyL.getD b.1.toNat 0
 let e:=cpF l X g.2
 let f:=clF l X e.2
 (⟨1,1 + a.1,X,f.1,1 + d.1,0,e.1,tag3.getD g.1.toNat ⟨#[]⟩⟩,f.2)
def cmdF (l:List Int) (ids:Int) (s:Sr):Cm × Sr :=
 let r:=nxF l 12 s
 if r.1 = 0 then rawF l r.2
 else if r.1 = 1 then (⟨2,0,0,0,0,1 + (nxF l (ids + 1) r.2).1,0,⟨#[]⟩⟩,(nxF l (ids + 1) r.2).2)
 else if r.1 = 2 then (⟨3,0,0,0,(nxF l 6 (nxF l (ids + 1) r.2).2).1,1 + (nxF l (ids + 1) r.2).1,0,⟨#[]⟩⟩,(nxF l 6 (nxF l (ids + 1) r.2).2).2)
 else if r.1 = 3 then (⟨4,0,0,0,0,0,0,⟨#[]⟩⟩,r.2)
 else cnF l r.2
theorem cp_at (l:List Int) (X:Int) (s:Sr):(cpF l X s).2.at_ ≤ s.at_ + 3:=by
 rw [cpF]; split
 ·show s.at_ ≤ s.at_ + 3; omega
 ·exact aC l 9 s
theorem cl_at (l:List Int) (X:Int) (s:Sr):(clF l X s).2.at_ ≤ s.at_ + 3:=by
 rw [clF]; split
 ·exact aC l 3 s
 ·show s.at_ ≤ s.at_ + 3; omega
theorem cn_at (l:List Int) (s:Sr):(cnF l s).2.at_ ≤ s.at_ + 18:=by
 have Q:=aC l 2 s
 have N:=aC l 8 (nxF l 2 s).2
 have h3:=aC l 12 (nxF l 8 (nxF l 2 s).2).2
 have h4:=aC l 3 (nxF l 12 (nxF l 8 (nxF l 2 s).2).2).2
 rw [cnF]
 simp only
 generalize tyL.getD (nxF l 8 (nxF l 2 s).2).1.toNat 0 = X
 have h5:=cp_at l X (nxF l 3 (nxF l 12 (nxF l 8 (nxF l 2 s).2).2).2).2
 have h6:=cl_at l X (cpF l X (nxF l 3 (nxF l 12 (nxF l 8 (nxF l 2 s).2).2).2).2).2
 omega
theorem cmd_at (l:List Int) (ids:Int) (s:Sr):(cmdF l ids s).2.at_ ≤ s.at_ + 30:=by
 have h0:=aC l 12 s
 have Q:=raw_at l (nxF l 12 s).2
 have N:=aC l (ids + 1) (nxF l 12 s).2
 have h3:=aC l 6 (nxF l (ids + 1) (nxF l 12 s).2).2
 have h4:=cn_at l (nxF l 12 s).2
 rw [cmdF]
 split
 ·omega
 ·split
  ·show (nxF l (ids + 1) (nxF l 12 s).2).2.at_ ≤ _; omega
  ·split
   ·show (nxF l 6 (nxF l (ids + 1) (nxF l 12 s).2).2).2.at_ ≤ _; omega
   ·split
    ·show (nxF l 12 s).2.at_ ≤ _; omega
    ·omega
end Go.Proofs.YtdliebbfcmdmaaaGreat
