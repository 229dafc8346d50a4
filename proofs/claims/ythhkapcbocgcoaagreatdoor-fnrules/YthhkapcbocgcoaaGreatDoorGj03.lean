/-
  The source of drawn things, exactly: a float (but for the bits of one that is no number), a tag. Proved by walking its methods.
-/
import Derived.Test.YthhkapcbocgcoaaGreatDoorGj02
set_option linter.unusedVariables false
set_option maxHeartbeats 6400000
set_option maxRecDepth 100000
namespace Go.Proofs.YthhkapcbocgcoaaGreatDoor
open Go.RowKit Ieee
set_option linter.unusedVariables false

def PEq (y z:Nat):Prop:=y = z ∨ (nanB y = true∧nanB z = true∧y < 18446744073709551616∧z < 18446744073709551616)
def fltL:List Nat:=[0,9223372036854775808,9221120237041090560,9218868437227405312,18442240474082181120,4598175219545276416,4636737291354636288,4636719699168591872,4687829947429945344,4687829956019879936,4591870180066957722,13830554455654793216,9223372036854775808,9094988921128908188,1]
theorem copysign_ex (w:World):Calls Tryz.prog 163 #[.float .f64 0,.float .f64 13830554455654793216] w fun e w'=>∃ y:Nat,e = .returned (.float .f64 y)∧y = 9223372036854775808∧w' = w:=by
 have Q:=fbits
 have D:=frombitsS
 go_enter Tryz.func163,Tryz.ntmps163
 go_wp2_with fail
 go_ret
 exact ⟨_,rfl,by kernel_rfl,rfl⟩
theorem nanOf_nan (W:World):nanB (nanOf W) = true:=by
 have h:nanOf W = (W.tape W.drawn (.nanBits .f64 0 0) % 2) * 2 ^ 63 + 0x7ff0000000000000 + 1 + (W.tape W.drawn (.nanBits .f64 0 0) / 2) % (2 ^ 52 - 1):=rfl
 rw [h]
 exact nan_drawn _
theorem nanOf_ltX (W:World):nanOf W < 18446744073709551616:=by
 have h:nanOf W = (W.tape W.drawn (.nanBits .f64 0 0) % 2) * 2 ^ 63 + 0x7ff0000000000000 + 1 + (W.tape W.drawn (.nanBits .f64 0 0) / 2) % (2 ^ 52 - 1):=rfl
 rw [h]
 generalize W.tape W.drawn (.nanBits .f64 0 0) = t
 have D:(t / 2) % (2 ^ 52 - 1) < 2 ^ 52 - 1:=Nat.mod_lt _ (by decide)
 omega
theorem float_rowX (k n y:Nat) (w:World) (t:TypeId) (h:k < 15) (hn:nanB n = true) (A:n < 18446744073709551616) (hy:y = 9223372036854775808) :
  ∃ z:Nat,PEq z (fltL.getD k 0)∧(w.alloc (.cells #[.float .f64 0,.float .f64 9223372036854775808,.float .f64 n,.float .f64 9218868437227405312,.float .f64 18442240474082181120,.float .f64 4598175219545276416,.float .f64 4636737291354636288,.float .f64 4636719699168591872,
   .float .f64 4687829947429945344,.float .f64 4687829956019879936,.float .f64 4591870180066957722,.float .f64 13830554455654793216,.float .f64 y,.float .f64 9094988921128908188,.float .f64 1] t)).cell? ⟨w.heap.size,k,none⟩ = some (.float .f64 z):=by
 rcases (show k = 0 ∨ k = 1 ∨ k = 2 ∨ k = 3 ∨ k = 4 ∨ k = 5 ∨ k = 6 ∨ k = 7 ∨ k = 8 ∨ k = 9 ∨ k = 10 ∨ k = 11 ∨ k = 12 ∨ k = 13 ∨ k = 14 by omega) with rfl | rfl | rfl | rfl | rfl | rfl | rfl | rfl | rfl | rfl | rfl | rfl | rfl | rfl | rfl
 all_goals first | exact ⟨_,.inr ⟨hn,by decide +kernel,A,by decide⟩,cell_of_row _ _ _ _ _ (0,0) (heap_alloc_new w _)⟩ | exact ⟨_,.inl rfl,cell_of_row _ _ _ _ _ (0,0) (heap_alloc_new w _)⟩ | exact ⟨_,.inl hy,cell_of_row _ _ _ _ _ (0,0) (heap_alloc_new w _)⟩
set_option maxRecDepth 100000 in
set_option maxHeartbeats 800000 in
theorem float_ex (B:Nat) (v:Value) (l:List Int) (s:Sr) (w:World) (h:SrX B w v l s) (hm:s.at_ ≤ 900000000) :
  Calls Tryz.prog 116 #[.pointer (some ⟨B,0,none⟩)] w fun e w'=>∃ y:Nat,e = .returned (.float .f64 y)∧PEq y (fltL.getD (nxF l 15 s).1.toNat 0)∧SrXE B w v l (nxF l 15 s).2 w':=by
 have HS:=hide h
 have hB:=dW h.src
 have HN:=hide (fun W hW=>cJ B v l 15 s W hW (by omega) (by omega) (by omega))
 obtain ⟨y0,y1⟩:=cZ (l:=l) (n:=15) (s:=s) (by omega)
 clear h
 generalize nxF l 15 s = R at HN y0 y1 ⊢
 obtain ⟨yy,s'⟩:=R
 simp only at HN y0 y1 ⊢
 obtain ⟨k,rfl⟩:=Int.eq_ofNat_of_zero_le y0
 rw [Int.toNat_natCast]
 have e1:=neg_zero
 have e2:=one_zero
 have e3:=less_zero
 have e4:=zero_zero
 go_enter Tryz.func116,Tryz.ntmps116
 go_wp2_with (first | (go_at_call 162; refine (zero_any _).mono ?_; rintro e w' ⟨rfl,rfl⟩) | (go_at_call 163; refine (copysign_ex _).mono ?_; rintro e w' ⟨yc,rfl,rfl,rfl⟩))
 have hn:=nanOf_nan w'
 have hnb:=nanOf_ltX w'
 generalize nanOf w' = n0 at *
 refine (U HN _ (srX_drew (dO (ew (U HS)) _) 1).1).mono ?_
 rintro e w1 ⟨rfl,hE⟩
 obtain ⟨z,uz,hz⟩:=float_rowX k n0 9223372036854775808 w' 31 (by omega) hn hnb rfl
 have HE:=hide (show SrXE B w' v l s' w1 from ⟨hE.1,zA (zA (dF w' _ _) (cS _ 1 _)) hE.2⟩)
 have HZ:=hide uz
 have hc:=hE.2.cell (show (World.drewN _ 1).cell? _ = _ from hz) (by simp; omega)
 clear hE hz e1 e2 e3 e4 uz hnb
 go_wp2_with fail
 go_ret
 exact ⟨_,rfl,U HZ,U HE⟩
set_option maxHeartbeats 400000 in
theorem tag_ex (B:Nat) (v:Value) (l:List Int) (s:Sr) (w:World) (h:SrX B w v l s) (hm:s.at_ ≤ 1000000000) :
  Calls Tryz.prog 117 #[.pointer (some ⟨B,0,none⟩)] w fun e w'=>e = .returned (.string (tags8.getD (nxF l 8 s).1.toNat ⟨#[]⟩))∧SrXE B w v l (nxF l 8 s).2 w':=by
 have HS:=hide h
 have hB:=dW h.src
 clear h
 have HX:=hide (zy w (tags8.map .string) 9)
 go_enter Tryz.func117,Tryz.ntmps117
 go_wp2_with fail
 refine (pick_ex B w.heap.size 8 v l s tags8 _ (dO (ew (U HS)) _).1 hm (by omega) rfl (by omega) (by omega) (fun k t ht=>zb (U HX) k (by rw [List.getElem?_map,ht]; rfl))).mono ?_
 rintro e w1 ⟨rfl,hE⟩
 have HE:=hide (show SrXE B w v l (nxF l (8:Nat) s).2 w1 from ⟨hE.1,zA (dF w _ _) hE.2⟩)
 clear hE HX
 go_wp2_with fail
 go_ret
 exact ⟨rfl,U HE⟩
end Go.Proofs.YthhkapcbocgcoaaGreatDoor
namespace Go.Proofs.YthhkapcbocgcoaaGreatDoor
open Go.RowKit
def DrOk (c:Cm):Prop:=c.g.size ≤ 20∧PrW c.p
structure CmEq (c d:Cm):Prop where
 k:c.k = d.k
 s:c.s = d.s
 t:c.t = d.t
 l:c.l = d.l
 q:c.q = d.q
 i:c.i = d.i
 p:PEq c.p d.p
 g:c.g = d.g
theorem nu_at (l:List Int) (s:Sr):(nuF l s).2.at_ ≤ s.at_ + 6:=by
 have Q:=bU l 4 s
 rw [nuF]; split
 ·have:=bU l 12 (nxF l 4 s).2
  show (nxF l 12 (nxF l 4 s).2).2.at_ ≤ s.at_ + 6; omega
 ·have:=bU l 400 (nxF l 4 s).2
  show (nxF l 400 (nxF l 4 s).2).2.at_ ≤ s.at_ + 6; omega
def rawF (l:List Int) (s:Sr):Cm × Sr :=
 let r1:=nxF l 6 s
 let r2:=nxF l 4 r1.2
 let r3:=nxF l 7 r2.2
 let r4:=nxF l 3 r3.2
 let r5:=nuF l r4.2
 let r6:=nxF l 3 r5.2
 let r7:=nxF l 15 r6.2
 let r8:=nxF l 8 r7.2
 (⟨r1.1,r2.1,r3.1,r4.1,r5.1,r6.1,fltL.getD r7.1.toNat 0,tags8.getD r8.1.toNat ⟨#[]⟩⟩,r8.2)
theorem raw_at (l:List Int) (s:Sr):(rawF l s).2.at_ ≤ s.at_ + 27:=by
 rw [rawF]
 have Q:=bU l 6 s
 have D:=bU l 4 (nxF l 6 s).2
 have X:=bU l 7 (nxF l 4 (nxF l 6 s).2).2
 have h4:=bU l 3 (nxF l 7 (nxF l 4 (nxF l 6 s).2).2).2
 have h5:=nu_at l (nxF l 3 (nxF l 7 (nxF l 4 (nxF l 6 s).2).2).2).2
 have h6:=bU l 3 (nuF l (nxF l 3 (nxF l 7 (nxF l 4 (nxF l 6 s).2).2).2).2).2
 have h7:=bU l 15 (nxF l 3 (nuF l (nxF l 3 (nxF l 7 (nxF l 4 (nxF l 6 s).2).2).2).2).2).2
 have h8:=bU l 8 (nxF l 15 (nxF l 3 (nuF l (nxF l 3 (nxF l 7 (nxF l 4 (nxF l 6 s).2).2).2).2).2).2).2
 simp only
 omega
structure DrY (B b:Nat) (w:World) (v:Value) (l:List Int) (s:Sr) (W:World):Prop where
 e:SrXE B w v l s W
 t:W.there b 0 8
theorem dv {B:Nat} {w W W':World} {v:Value} {l:List Int} {s s':Sr} (h:DrY B w.heap.size w v l s W) (hB:B < w.heap.size) (h':SrXE B W v l s' W') (hW:w.heap.size < W.heap.size):DrY B w.heap.size w v l s' W' :=
 ⟨⟨h'.1,zA h.e.2 h'.2⟩,eD h.t h'.2 hW (fun e=>by have:=Option.some.inj e; omega)⟩
theorem eJ {B b o:Nat} {w W:World} {v:Value} {l:List Int} {s:Sr} (hv:l ≠ []→∃ k,v.ownBlock = some k∧k < w.heap.size) (h:SrXE B w v l s W) (hB:B < w.heap.size) (A:w.heap.size ≤ b) (vs:List Value):SrXE B w v l s (W.setCells b o vs):=by
 have Q:=srcE_set (b:=b) (o:=o) hv ⟨h.1.src,h.2⟩ hB A vs
 have g:=gr_setsD b vs o W
 have xC:some B ≠ some b:=fun e=>by have:=Option.some.inj e; omega
 have e:∀ i,(W.setCells b o vs).cell? ⟨B,i,none⟩ = W.cell? ⟨B,i,none⟩:=fun i=>yR (a:=⟨B,i,none⟩) (g.block B (dW h.1.src) xC)
 exact ⟨⟨Q.1,h.1.a0,h.1.s0,h.1.s1,(e 1).trans h.1.c1,(e 2).trans h.1.c2⟩,Q.2⟩
set_option maxRecDepth 100000 in
set_option maxHeartbeats 3200000 in
theorem rawCmd_ex (B:Nat) (v:Value) (l:List Int) (s:Sr) (w:World) (h:SrX B w v l s) (hm:s.at_ ≤ 800000000) :
  Calls Tryz.prog 63 #[.pointer (some ⟨B,0,none⟩)] w fun e w'=>∃ c:Cm,e = .returned (.agg c.vs.toArray)∧CmEq c (rawF l s).1∧SrXE B w v l (rawF l s).2 w':=by
 generalize Q:nxF l 6 s = R1
 obtain ⟨y1,s1⟩:=R1
 have a1:=bU l 6 s
 rw [Q] at a1
 simp only at a1
 generalize D:nxF l 4 s1 = R2
 obtain ⟨y2,s2⟩:=R2
 have a2:=bU l 4 s1
 rw [D] at a2
 simp only at a2
 generalize X:nxF l 7 s2 = R3
 obtain ⟨y3,s3⟩:=R3
 have a3:=bU l 7 s2
 rw [X] at a3
 simp only at a3
 generalize h4:nxF l 3 s3 = R4
 obtain ⟨y4,s4⟩:=R4
 have a4:=bU l 3 s3
 rw [h4] at a4
 simp only at a4
 generalize h5:nuF l s4 = R5
 obtain ⟨y5,s5⟩:=R5
 have a5:=nu_at l s4
 rw [h5] at a5
 simp only at a5
 generalize h6:nxF l 3 s5 = R6
 obtain ⟨y6,s6⟩:=R6
 have a6:=bU l 3 s5
 rw [h6] at a6
 simp only at a6
 generalize h7:nxF l 15 s6 = R7
 obtain ⟨y7,s7⟩:=R7
 have a7:=bU l 15 s6
 rw [h7] at a7
 simp only at a7
 generalize h8:nxF l 8 s7 = R8
 obtain ⟨y8,s8⟩:=R8
 have a8:=bU l 8 s7
 rw [h8] at a8
 simp only at a8
 have bB:Hid (rawF l s = (⟨y1,y2,y3,y4,y5,y6,fltL.getD y7.toNat 0,tags8.getD y8.toNat ⟨#[]⟩⟩,s8)):=by show _ = _; simp only [rawF,Q,D,X,h4,h5,h6,h7,h8]
 have C1:=hide (fun W hW=>cJ B v l 6 s W hW (by omega) (by omega) (by omega))
 simp only [Q] at C1
 have C2:=hide (fun W hW=>cJ B v l 4 s1 W hW (by omega) (by omega) (by omega))
 simp only [D] at C2
 have C3:=hide (fun W hW=>cJ B v l 7 s2 W hW (by omega) (by omega) (by omega))
 simp only [X] at C3
 have C4:=hide (fun W hW=>cJ B v l 3 s3 W hW (by omega) (by omega) (by omega))
 simp only [h4] at C4
 have C5:=hide (fun W hW=>number_ex B v l s4 W hW (by omega))
 simp only [h5] at C5
 have C6:=hide (fun W hW=>cJ B v l 3 s5 W hW (by omega) (by omega) (by omega))
 simp only [h6] at C6
 have C7:=hide (fun W hW=>float_ex B v l s6 W hW (by omega))
 simp only [h7] at C7
 have C8:=hide (fun W hW=>tag_ex B v l s7 W hW (by omega))
 simp only [h8] at C8
 have HV:=hide (src_far h.src)
 have hB:=dW h.src
 have kI:Hid (DrY B w.heap.size w v l s (w.alloc (Obj.cells #[.int .i64 0,.int .i64 0,.int .i64 0,.int .i64 0,.int .i64 0,.int .i64 0,.float .f64 0,.string ⟨#[]⟩] 33))):=⟨dO (ew h) _,(zy w [.int .i64 0,.int .i64 0,.int .i64 0,.int .i64 0,.int .i64 0,.int .i64 0,.float .f64 0,.string ⟨#[]⟩] 33).t⟩
 have qH:w.heap.size < (w.alloc (Obj.cells #[.int .i64 0,.int .i64 0,.int .i64 0,.int .i64 0,.int .i64 0,.int .i64 0,.float .f64 0,.string ⟨#[]⟩] 33)).heap.size:=by simp
 rw [U bB]
 clear h Q D X h4 h5 h6 h7 h8 a1 a2 a3 a4 a5 a6 a7 a8 bB
 generalize tags8.getD y8.toNat ⟨#[]⟩ = tg at C8 ⊢
 generalize fltL.getD y7.toNat 0 = p0 at C7 ⊢
 go_enter Tryz.func63,Tryz.ntmps63
 go_wp2_with fail
 generalize (w.alloc (Obj.cells #[.int .i64 0,.int .i64 0,.int .i64 0,.int .i64 0,.int .i64 0,.int .i64 0,.float .f64 0,.string ⟨#[]⟩] 33)) = W0 at kI qH ⊢
 refine (U C1 W0 (U kI).e.1).mono ?_
 rintro e W1 ⟨rfl,hE⟩
 have qJ:=hide (dv (U kI) hB hE qH)
 have xF:w.heap.size < W1.heap.size:=yK qH hE.2.size
 clear hE kI qH C1
 go_wp2_with fail
 refine (U C2 W1 (U qJ).e.1).mono ?_
 rintro e W2 ⟨rfl,hE⟩
 have ai:=hide (dv (U qJ) hB hE xF)
 have ug:w.heap.size < W2.heap.size:=yK xF hE.2.size
 clear hE qJ xF C2
 go_wp2_with fail
 refine (U C3 W2 (U ai).e.1).mono ?_
 rintro e W3 ⟨rfl,hE⟩
 have HD3:=hide (dv (U ai) hB hE ug)
 have jZ:w.heap.size < W3.heap.size:=yK ug hE.2.size
 clear hE ai ug C3
 go_wp2_with fail
 refine (U C4 W3 (U HD3).e.1).mono ?_
 rintro e W4 ⟨rfl,hE⟩
 have HD4:=hide (dv (U HD3) hB hE jZ)
 have ka:w.heap.size < W4.heap.size:=yK jZ hE.2.size
 clear hE HD3 jZ C4
 go_wp2_with fail
 refine (U C5 W4 (U HD4).e.1).mono ?_
 rintro e W5 ⟨rfl,hE⟩
 have HD5:=hide (dv (U HD4) hB hE ka)
 have hs5:w.heap.size < W5.heap.size:=yK ka hE.2.size
 clear hE HD4 ka C5
 go_wp2_with fail
 refine (U C6 W5 (U HD5).e.1).mono ?_
 rintro e W6 ⟨rfl,hE⟩
 have HD6:=hide (dv (U HD5) hB hE hs5)
 have hs6:w.heap.size < W6.heap.size:=yK hs5 hE.2.size
 clear hE HD5 hs5 C6
 go_wp2_with fail
 refine (U C7 W6 (U HD6).e.1).mono ?_
 rintro e W7 ⟨p7,rfl,hp7,hE⟩
 have HD7:=hide (dv (U HD6) hB hE hs6)
 have hs7:w.heap.size < W7.heap.size:=yK hs6 hE.2.size
 have HP7:=hide hp7
 clear hp7
 clear hE HD6 hs6 C7
 go_wp2_with fail
 refine (U C8 W7 (U HD7).e.1).mono ?_
 rintro e W8 ⟨rfl,hE⟩
 have HD8:=hide (dv (U HD7) hB hE hs7)
 have hs8:w.heap.size < W8.heap.size:=yK hs7 hE.2.size
 clear hE HD7 hs7 C8
 have aD:=hide (U HD8).t
 have uw:Hid ((W8.setCells w.heap.size 0 [.int .i64 y1,.int .i64 y2,.int .i64 y3,.int .i64 y4,.int .i64 y5,.int .i64 y6,.float .f64 p7,.string tg]).rangeAt w.heap.size 0 [.int .i64 y1,.int .i64 y2,.int .i64 y3,.int .i64 y4,.int .i64 y5,.int .i64 y6,.float .f64 p7,.string tg]):=yY _ _ _ _ (U HD8).t
 have oo:Hid (SrXE B w v l s8 (W8.setCells w.heap.size 0 [.int .i64 y1,.int .i64 y2,.int .i64 y3,.int .i64 y4,.int .i64 y5,.int .i64 y6,.float .f64 p7,.string tg])):=eJ (U HV) (U HD8).e hB (Nat.le_refl _) _
 try dsimp only
 rename_i K1 aP K2 ki
 refine ki _ _ ?_
 have xK:=hide aP
 clear aP ki
 refine wpList_step fun K3 pl=>?_
 have ku:=hide pl
 clear pl
 rw [if_pos (by rfl)]
 unfold Oper.wp
 go_simp
 refine U ku _ _ ?_
 clear ku
 refine wpList_store_mid rfl 33 (.tmp 2) (.tmp 19) rfl w.heap.size 0 #[.int .i64 y1,.int .i64 y2,.int .i64 y3,.int .i64 y4,.int .i64 y5,.int .i64 y6,.float .f64 p7,.string tg] rfl rfl (U aD) (by kernel_rfl) (by simp [Value.oneCell']) ?_
 change wpList _ _ _ _ _ (W8.setCells w.heap.size 0 [.int .i64 y1,.int .i64 y2,.int .i64 y3,.int .i64 y4,.int .i64 y5,.int .i64 y6,.float .f64 p7,.string tg])
 generalize W8.setCells w.heap.size 0 [.int .i64 y1,.int .i64 y2,.int .i64 y3,.int .i64 y4,.int .i64 y5,.int .i64 y6,.float .f64 p7,.string tg] = WF at uw oo ⊢
 have aP:=U xK
 go_wp2_with fail
 have d0:=U uw 0 _ rfl
 have d1:=U uw 1 _ rfl
 have d2:=U uw 2 _ rfl
 have d3:=U uw 3 _ rfl
 have d4:=U uw 4 _ rfl
 have d5:=U uw 5 _ rfl
 have d6:=U uw 6 _ rfl
 have d7:=U uw 7 _ rfl
 simp only [Nat.zero_add] at d0 d1 d2 d3 d4 d5 d6 d7
 refine bodyPost_ret (by simp [results,Tryz.results63,go_sem,d0,d1,d2,d3,d4,d5,d6,d7]; try rfl) rfl ?_
 exact ⟨⟨y1,y2,y3,y4,y5,y6,p7,tg⟩,rfl,⟨rfl,rfl,rfl,rfl,rfl,rfl,U HP7,rfl⟩,U oo⟩
structure Od where
  id:Int
  side:Int
  ticks:Int
  left:Int
  life:Int
  tag:ByteArray
structure Nd where
  side:Int
  ticks:Int
  qty:Int
  count:Int
  be:Nat
  wo:Nat
  el:Nat
  yo:Nat
structure Qo where
  od:Od
  yg:Nat
structure TS where
  root:Nat
  lc:Nat
  oc:Nat
  nd:Nat→Nd
  qo:Nat→Qo
inductive Tr where
  | nil:Tr
  | node (h:Nat) (l r:Tr):Tr
def zOd:Od:=⟨0,0,0,0,0,⟨#[]⟩⟩
def zNd:Nd:=⟨0,0,0,0,0,0,0,0⟩
def zQo:Qo:=⟨zOd,0⟩
def zTS:TS:=⟨0,0,0,fun _=>zNd,fun _=>zQo⟩
def bt:Bool→Int→Int→Prop
  | true,a,b=>b < a
  | false,a,b=>a < b
theorem eg (s:Bool) (a:Int):¬ bt s a a:=by cases s <;> simp [bt]
theorem bt_trans {s:Bool} {a b c:Int} (Q:bt s a b) (D:bt s b c):bt s a c:=by cases s <;> simp only [bt] at * <;> omega
theorem bt_total (s:Bool) (a b:Int):bt s a b ∨ a = b ∨ bt s b a:=by cases s <;> simp only [bt] <;> omega
theorem bt_asymm {s:Bool} {a b:Int} (Q:bt s a b):¬ bt s b a:=by cases s <;> simp only [bt] at * <;> omega
instance (s:Bool) (a b:Int):Decidable (bt s a b):=by cases s <;> (unfold bt; infer_instance)
def Tr.hs:Tr→List Nat
  | .nil=>[]
  | .node h l r=>l.hs ++ h :: r.hs
def Rep (nd:Nat→Nd):Tr→Nat→Prop
  | .nil,v=>v = 0
  | .node h l r,v=>v = h∧0 < h∧Rep nd l (nd h).be∧Rep nd r (nd h).wo
theorem eX {nd nd':Nat→Nd}:∀ {t:Tr} {v:Nat},(∀ h ∈ t.hs,(nd' h).be = (nd h).be∧(nd' h).wo = (nd h).wo)→Rep nd t v→Rep nd' t v
  | .nil,_,_,h=>h
  | .node h l r,v,hc,⟨Q,D,X,h4⟩=>by
    have hh:=hc h (by simp [Tr.hs])
    refine ⟨Q,D,?_,?_⟩
    · rw [hh.1]; exact eX (fun a ha=>hc a (by simp [Tr.hs,ha])) X
    · rw [hh.2]; exact eX (fun a ha=>hc a (by simp [Tr.hs,ha])) h4
theorem rep_nil {nd:Nat→Nd} {t:Tr} (h:Rep nd t 0):t = .nil:=by
  cases t with
  | nil=>rfl
  | node a l r=>obtain ⟨Q,D,_⟩:=h; omega
theorem rep_node {nd:Nat→Nd} {t:Tr} {v:Nat} (h:Rep nd t v) (hv:v ≠ 0):∃ l r,t = .node v l r∧Rep nd l (nd v).be∧Rep nd r (nd v).wo:=by
  cases t with
  | nil=>exact absurd h hv
  | node a l r=>obtain ⟨rfl,_,X,h4⟩:=h; exact ⟨l,r,rfl,X,h4⟩
inductive Cur where
  | root:Cur
  | be (h:Nat):Cur
  | wo (h:Nat):Cur
def TS.rd (S:TS):Cur→Nat
  | .root=>S.root
  | .be h=>(S.nd h).be
  | .wo h=>(S.nd h).wo
def upd {α:Type} (f:Nat→α) (i:Nat) (x:α):Nat→α:=fun j=>if j = i then x else f j
theorem zt {α:Type} (f:Nat→α) (i:Nat) (x:α):upd f i x i = x:=by simp [upd]
theorem zq {α:Type} (f:Nat→α) {i j:Nat} (x:α) (h:j ≠ i):upd f i x j = f j:=by simp [upd,h]
def TS.wr (S:TS) (n:Nat):Cur→TS
  | .root=>{ S with root:=n }
  | .be h=>{ S with nd:=upd S.nd h { S.nd h with be:=n } }
  | .wo h=>{ S with nd:=upd S.nd h { S.nd h with wo:=n } }
abbrev Ctx:=List (Bool × Nat × Tr)
def plug:Ctx→Tr→Tr
  | [],s=>s
  | (true,h,r) :: c,s=>plug c (.node h s r)
  | (false,h,l) :: c,s=>plug c (.node h l s)
def zQ:Ctx→Cur
  | []=>.root
  | (true,h,_) :: _=>.be h
  | (false,h,_) :: _=>.wo h
def cl:Ctx→List Nat
  | []=>[]
  | (true,_,_) :: c=>cl c
  | (false,h,l) :: c=>cl c ++ (l.hs ++ [h])
def cr:Ctx→List Nat
  | []=>[]
  | (true,h,r) :: c=>h :: r.hs ++ cr c
  | (false,_,_) :: c=>cr c
theorem eM:∀ (c:Ctx) (s:Tr),(plug c s).hs = cl c ++ (s.hs ++ cr c)
  | [],s=>by simp [plug,cl,cr]
  | (true,h,r) :: c,s=>by rw [plug,eM c]; simp [Tr.hs,cl,cr]
  | (false,h,l) :: c,s=>by rw [plug,eM c]; simp [Tr.hs,cl,cr]
def RepC (nd:Nat→Nd):Ctx→Nat→Nat→Prop
  | [],root,v=>v = root
  | (true,h,r) :: c,root,v=>v = (nd h).be∧0 < h∧Rep nd r (nd h).wo∧RepC nd c root h
  | (false,h,l) :: c,root,v=>v = (nd h).wo∧0 < h∧Rep nd l (nd h).be∧RepC nd c root h
theorem rep_plug {nd:Nat→Nd} {root:Nat}:∀ (c:Ctx) (s:Tr) (v:Nat),RepC nd c root v→Rep nd s v→Rep nd (plug c s) root
  | [],s,v,h,hs=>by rw [← h]; exact hs
  | (true,a,r) :: c,s,v,⟨Q,D,X,h4⟩,hs=>rep_plug c (.node a s r) a h4 ⟨rfl,D,Q ▸ hs,X⟩
  | (false,a,l) :: c,s,v,⟨Q,D,X,h4⟩,hs=>rep_plug c (.node a l s) a h4 ⟨rfl,D,X,Q ▸ hs⟩
theorem fY {nd nd':Nat→Nd}:∀ {c:Ctx} {root v:Nat},(∀ h ∈ cl c ++ cr c,(nd' h).be = (nd h).be∧(nd' h).wo = (nd h).wo)→RepC nd c root v→RepC nd' c root v
  | [],_,_,_,h=>h
  | (true,a,r) :: c,root,v,hc,⟨Q,D,X,h4⟩=>by
    have ha:=hc a (by simp [cr])
    refine ⟨by rw [ha.1]; exact Q,D,by rw [ha.2]; exact eX (fun b A=>hc b (by simp [cr,A])) X,fY (fun b A=>hc b ?_) h4⟩
    simp [cl,cr] at A ⊢; rcases A with A | A <;> simp [A]
  | (false,a,l) :: c,root,v,hc,⟨Q,D,X,h4⟩=>by
    have ha:=hc a (by simp [cl])
    refine ⟨by rw [ha.2]; exact Q,D,by rw [ha.1]; exact eX (fun b A=>hc b (by simp [cl,A])) X,fY (fun b A=>hc b ?_) h4⟩
    simp [cl,cr] at A ⊢; rcases A with A | A <;> simp [A]
theorem rep_wr {S:TS} {c:Ctx} {v n:Nat} (h:RepC S.nd c S.root v) (hd:(cl c ++ cr c).Nodup):RepC (S.wr n (zQ c)).nd c (S.wr n (zQ c)).root n:=by
  match c,h,hd with
  | [],h,_=>rfl
  | (true,a,r) :: c,⟨Q,D,X,h4⟩,hd =>
    simp only [cl,cr] at hd
    rw [List.nodup_append] at hd
    obtain ⟨d1,d2,d3⟩:=hd
    simp only [List.cons_append,List.nodup_cons,List.mem_append,not_or] at d2
    have xC:∀ b,b ∈ r.hs ∨ b ∈ cl c ∨ b ∈ cr c→b ≠ a:=by
      rintro b (A | A | A) rfl
      · exact d2.1.1 A
      · exact d3 b A b (by simp) rfl
      · exact d2.1.2 A
    simp only [zQ,TS.wr]
    refine ⟨by simp [upd],D,?_,?_⟩
    · simp only [zt]
      exact eX (fun b A=>by rw [zq _ _ (xC b (.inl A))]; exact ⟨rfl,rfl⟩) X
    · exact fY (fun b A=>by rw [zq _ _ (xC b (.inr (by simpa using A)))]; exact ⟨rfl,rfl⟩) h4
  | (false,a,l) :: c,⟨Q,D,X,h4⟩,hd =>
    simp only [cl,cr] at hd
    rw [List.nodup_append] at hd
    obtain ⟨d1,d2,d3⟩:=hd
    rw [List.nodup_append] at d1
    obtain ⟨d4,d5,d6⟩:=d1
    rw [List.nodup_append] at d5
    obtain ⟨d7,d8,d9⟩:=d5
    have xC:∀ b,b ∈ l.hs ∨ b ∈ cl c ∨ b ∈ cr c→b ≠ a:=by
      rintro b (A | A | A) rfl
      · exact d9 b A b (by simp) rfl
      · exact d6 b A b (by simp) rfl
      · exact d3 b (by simp) b A rfl
    simp only [zQ,TS.wr]
    refine ⟨by simp [upd],D,?_,?_⟩
    · simp only [zt]
      exact eX (fun b A=>by rw [zq _ _ (xC b (.inl A))]; exact ⟨rfl,rfl⟩) X
    · exact fY (fun b A=>by rw [zq _ _ (xC b (.inr (by simpa using A)))]; exact ⟨rfl,rfl⟩) h4
structure TI (s:Bool) (S:TS) (t:Tr):Prop where
  rep:Rep S.nd t S.root
  nodup:t.hs.Nodup
  range:∀ h ∈ t.hs,1 ≤ h∧h ≤ S.lc
  len:t.hs.length = S.lc
  sorted:t.hs.Pairwise (fun a b=>bt s (S.nd a).ticks (S.nd b).ticks)
  fresh:∀ h,S.lc < h→S.nd h = zNd
structure Way (s:Bool) (S:TS) (t:Tr) (k:Int) (c:Ctx) (u:Tr):Prop where
  plug:t = plug c u
  repC:RepC S.nd c S.root (S.rd (zQ c))
  rep:Rep S.nd u (S.rd (zQ c))
  left:∀ a ∈ cl c,bt s (S.nd a).ticks k
  right:∀ a ∈ cr c,bt s k (S.nd a).ticks
theorem way_start {s:Bool} {S:TS} {t:Tr} (h:TI s S t) (k:Int):Way s S t k [] t :=
  ⟨rfl,rfl,h.rep,by simp [cl],by simp [cr]⟩
theorem way_pair {s:Bool} {S:TS} {a:Nat} {l r:Tr} {c:Ctx} (h:(plug c (.node a l r)).hs.Pairwise (fun a b=>bt s (S.nd a).ticks (S.nd b).ticks)) :
    (∀ b ∈ l.hs,bt s (S.nd b).ticks (S.nd a).ticks)∧(∀ b ∈ r.hs,bt s (S.nd a).ticks (S.nd b).ticks):=by
  rw [eM,Tr.hs] at h
  have D:=(List.pairwise_append.1 (List.pairwise_append.1 h).2.1).1
  obtain ⟨_,X,h4⟩:=List.pairwise_append.1 D
  exact ⟨fun b A=>h4 b A a (by simp),(List.pairwise_cons.1 X).1⟩
theorem way_be {s:Bool} {S:TS} {t:Tr} {k:Int} {c:Ctx} {u:Tr} {a:Nat} (hi:TI s S t) (h:Way s S t k c u) (ha:S.rd (zQ c) = a) (h0:a ≠ 0) (E:bt s k (S.nd a).ticks) :
    ∃ l r,u = .node a l r∧Way s S t k ((true,a,r) :: c) l:=by
  obtain ⟨Q,D,X,h4,h5⟩:=h
  rw [ha] at D X
  obtain ⟨l,r,rfl,h6,h7⟩:=rep_node X h0
  have hp:=way_pair (by rw [← Q]; exact hi.sorted)
  refine ⟨l,r,rfl,Q,⟨rfl,by omega,h7,D⟩,h6,h4,fun b A=>?_⟩
  simp only [cr,List.cons_append,List.mem_cons,List.mem_append] at A
  rcases A with rfl | A | A
  · exact E
  · exact bt_trans E (hp.2 b A)
  · exact h5 b A
theorem way_wo {s:Bool} {S:TS} {t:Tr} {k:Int} {c:Ctx} {u:Tr} {a:Nat} (hi:TI s S t) (h:Way s S t k c u) (ha:S.rd (zQ c) = a) (h0:a ≠ 0) (E:bt s (S.nd a).ticks k) :
    ∃ l r,u = .node a l r∧Way s S t k ((false,a,l) :: c) r:=by
  obtain ⟨Q,D,X,h4,h5⟩:=h
  rw [ha] at D X
  obtain ⟨l,r,rfl,h6,h7⟩:=rep_node X h0
  have hp:=way_pair (by rw [← Q]; exact hi.sorted)
  refine ⟨l,r,rfl,Q,⟨rfl,by omega,h6,D⟩,h7,fun b A=>?_,h5⟩
  simp only [cl,List.mem_append,List.mem_cons,List.not_mem_nil,or_false] at A
  rcases A with A | A | rfl
  · exact h4 b A
  · exact bt_trans (hp.1 b A) E
  · exact E
theorem way_at {s:Bool} {S:TS} {t:Tr} {k:Int} {c:Ctx} {u:Tr} {a:Nat} (h:Way s S t k c u) (ha:S.rd (zQ c) = a) (h0:a ≠ 0):a ∈ t.hs:=by
  obtain ⟨Q,D,X,_⟩:=h
  rw [ha] at X
  obtain ⟨l,r,rfl,_⟩:=rep_node X h0
  rw [Q,eM]; simp [Tr.hs]
def TS.grow (S:TS) (cu:Cur) (sd k:Int):TS :=
  let S1:=S.wr (S.lc + 1) cu
  { S1 with lc:=S.lc + 1,nd:=upd S1.nd (S.lc + 1) { S1.nd (S.lc + 1) with side:=sd,ticks:=k,qty:=0,count:=0 } }
theorem gP (S:TS) (n:Nat) (cu:Cur) (a:Nat):((S.wr n cu).nd a).ticks = (S.nd a).ticks:=by
  cases cu with
  | root=>rfl
  | be h=>simp only [TS.wr,upd]; split <;> simp_all
  | wo h=>simp only [TS.wr,upd]; split <;> simp_all
theorem wr_nd_out (S:TS) (n:Nat) (c:Ctx) (a:Nat) (ha:a ∉ cl c ++ cr c):(S.wr n (zQ c)).nd a = S.nd a:=by
  match c,ha with
  | [],_=>rfl
  | (true,b,r) :: c,ha=>simp only [zQ,TS.wr]; exact zq _ _ (fun e=>ha (by simp [cl,cr,e]))
  | (false,b,l) :: c,ha=>simp only [zQ,TS.wr]; exact zq _ _ (fun e=>ha (by simp [cl,cr,e]))
theorem wr_same (S:TS) (n:Nat) (cu:Cur):(S.wr n cu).lc = S.lc∧(S.wr n cu).oc = S.oc∧(S.wr n cu).qo = S.qo:=by
  cases cu <;> exact ⟨rfl,rfl,rfl⟩
theorem wr_nd_rest (S:TS) (n:Nat) (cu:Cur) (a:Nat):((S.wr n cu).nd a).side = (S.nd a).side∧((S.wr n cu).nd a).qty = (S.nd a).qty∧((S.wr n cu).nd a).count = (S.nd a).count∧((S.wr n cu).nd a).el = (S.nd a).el∧((S.wr n cu).nd a).yo = (S.nd a).yo:=by
  cases cu with
  | root=>exact ⟨rfl,rfl,rfl,rfl,rfl⟩
  | be h=>simp only [TS.wr,upd]; split <;> simp_all
  | wo h=>simp only [TS.wr,upd]; split <;> simp_all
theorem ti_grow {s:Bool} {S:TS} {t:Tr} {k sd:Int} {c:Ctx} {u:Tr} (hi:TI s S t) (h:Way s S t k c u) (h0:S.rd (zQ c) = 0) :
    TI s (S.grow (zQ c) sd k) (plug c (.node (S.lc + 1) .nil .nil))∧t.hs = cl c ++ cr c∧(∀ a ∈ t.hs,(S.nd a).ticks ≠ k):=by
  obtain ⟨Q,D,X,h4,h5⟩:=h
  rw [h0] at X
  obtain rfl:=rep_nil X
  have ht:t.hs = cl c ++ cr c:=by rw [Q,eM]; simp [Tr.hs]
  have oI:S.lc + 1 ∉ cl c ++ cr c:=by
    rw [← ht]; intro hm; have:=(hi.range _ hm).2; omega
  have hnd:=hi.nodup
  rw [ht] at hnd
  have hz:(S.grow (zQ c) sd k).nd (S.lc + 1) = { zNd with side:=sd,ticks:=k }:=by
    show upd _ _ _ _ = _
    rw [zt,wr_nd_out S _ c _ oI,hi.fresh _ (by omega)]
    rfl
  have hrc:=rep_wr (n:=S.lc + 1) D hnd
  have hag:∀ b ∈ cl c ++ cr c,(S.grow (zQ c) sd k).nd b = (S.wr (S.lc + 1) (zQ c)).nd b:=fun b A=>zq _ _ (fun e=>oI (e ▸ A))
  have hhs:(plug c (.node (S.lc + 1) .nil .nil)).hs = cl c ++ (S.lc + 1) :: cr c:=by rw [eM]; simp [Tr.hs]
  have pT:∀ b ∈ cl c ++ cr c,((S.grow (zQ c) sd k).nd b).ticks = (S.nd b).ticks:=fun b A=>by rw [hag b A,gP]
  have pS:=hi.sorted
  rw [ht] at pS
  refine ⟨⟨?_,?_,?_,?_,?_,?_⟩,ht,?_⟩
  · refine rep_plug c _ (S.lc + 1) (fY (fun b A=>by rw [hag b A]; exact ⟨rfl,rfl⟩) hrc) ⟨rfl,by omega,?_,?_⟩ <;> rw [hz] <;> rfl
  · rw [hhs]
    rw [List.nodup_append] at hnd ⊢
    obtain ⟨d1,d2,d3⟩:=hnd
    refine ⟨d1,List.nodup_cons.2 ⟨fun hm=>oI (by simp [hm]),d2⟩,?_⟩
    intro a ha b A
    rcases List.mem_cons.1 A with rfl | A
    · rintro rfl; exact oI (by simp [ha])
    · exact d3 a ha b A
  · rw [hhs]
    intro a ha
    have vB:(S.grow (zQ c) sd k).lc = S.lc + 1:=rfl
    rw [vB]
    simp only [List.mem_append,List.mem_cons] at ha
    rcases ha with ha | rfl | ha
    · have:=hi.range a (by rw [ht]; simp [ha]); omega
    · omega
    · have:=hi.range a (by rw [ht]; simp [ha]); omega
  · rw [hhs]
    have:=hi.len
    rw [ht] at this
    show _ = S.lc + 1
    simp at this ⊢; omega
  · rw [hhs,List.pairwise_append]
    rw [List.pairwise_append] at pS
    obtain ⟨d1,d2,d3⟩:=pS
    refine ⟨d1.imp_of_mem fun {a b} ha A hab=>?_,List.pairwise_cons.2 ⟨fun b A=>?_,d2.imp_of_mem fun {a b} ha A hab=>?_⟩,fun a ha b A=>?_⟩
    · rw [pT a (by simp [ha]),pT b (by simp [A])]; exact hab
    · rw [hz,pT b (by simp [A])]; exact h5 b A
    · rw [pT a (by simp [ha]),pT b (by simp [A])]; exact hab
    · rw [pT a (by simp [ha])]
      rcases List.mem_cons.1 A with rfl | A
      · rw [hz]; exact h4 a ha
      · rw [pT b (by simp [A])]; exact d3 a ha b A
  · intro h hh
    have hh':S.lc + 1 < h:=hh
    show upd _ _ _ _ = _
    rw [zq _ _ (by omega),wr_nd_out S _ c _ (by rw [← ht]; intro hm; have:=(hi.range _ hm).2; omega),hi.fresh _ (by omega)]
  · intro a ha
    rw [ht,List.mem_append] at ha
    rcases ha with ha | ha
    · intro e; have:=h4 a ha; rw [e] at this; exact eg _ _ this
    · intro e; have:=h5 a ha; rw [e] at this; exact eg _ _ this
end Go.Proofs.YthhkapcbocgcoaaGreatDoor
