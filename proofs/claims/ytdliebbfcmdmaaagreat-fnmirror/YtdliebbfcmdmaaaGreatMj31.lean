/-
  The source of drawn things, exactly: one of so many, a chance, a size, a text, an odd number, a number. Proved by walking its methods.
-/
import Derived.Test.YtdliebbfcmdmaaaGreatMj30
set_option linter.unusedVariables false
set_option maxHeartbeats 6400000
set_option maxRecDepth 100000
namespace Go.Proofs.YtdliebbfcmdmaaaGreat
open Go.RowKit
theorem by_at (l:List Int) (s:Sr):(byF l s).2.at_ = s.at_ + 1:=by
 rw [byF]; split
 ·rfl
 ·split <;> rfl
theorem by_bd {l:List Int} {s:Sr} (L:Bts l) (hs:0 ≤ s.seed):0 ≤ (byF l s).1∧(byF l s).1 ≤ 255:=by
 rw [byF]; split
 ·have:=bts_get L s.at_.toNat; exact ⟨this.1,by have:=this.2; show l.getD s.at_.toNat 0 ≤ 255; omega⟩
 ·split
  ·exact ⟨by show (0:Int) ≤ 0; omega,by show (0:Int) ≤ 255; omega⟩
  ·exact ⟨by show 0 ≤ (s.seed * 1103515245 + 12345) % 2147483648 / 65536 % 256; omega,by show (s.seed * 1103515245 + 12345) % 2147483648 / 65536 % 256 ≤ 255; omega⟩
theorem by_seed {l:List Int} {s:Sr} (hs:0 ≤ s.seed):0 ≤ (byF l s).2.seed:=by
 rw [byF]; split
 ·show 0 ≤ (s.seed * 31 + l.getD s.at_.toNat 0 + 7) % 2147483648; omega
 ·split
  ·exact hs
  ·show 0 ≤ (s.seed * 1103515245 + 12345) % 2147483648; omega
theorem aC (l:List Int) (n:Int) (s:Sr):(nxF l n s).2.at_ ≤ s.at_ + 3:=by
 rw [nxF]; split
 ·show s.at_ ≤ s.at_ + 3; omega
 ·split
  ·show (byF l s).2.at_ ≤ s.at_ + 3; rw [by_at]; omega
  ·show (byF l (byF l (byF l s).2).2).2.at_ ≤ s.at_ + 3; rw [by_at,by_at,by_at]; omega
theorem nx_bd {l:List Int} {n:Int} {s:Sr} (Q:1 ≤ n):0 ≤ (nxF l n s).1∧(nxF l n s).1 < n:=by
 rw [nxF]; split
 ·exact ⟨by show (0:Int) ≤ 0; omega,by show (0:Int) < n; omega⟩
 ·split
  ·exact ⟨Int.emod_nonneg _ (by omega),Int.emod_lt_of_pos _ (by omega)⟩
  ·exact ⟨Int.emod_nonneg _ (by omega),Int.emod_lt_of_pos _ (by omega)⟩
set_option maxRecDepth 100000 in
set_option maxHeartbeats 800000 in
theorem aS (B:Nat) (v:Value) (l:List Int) (n:Int) (s:Sr) (w:World) (h:SrX B w v l s) (hm:s.at_ ≤ 1000000000) (Q:1 ≤ n) (N:n ≤ 1073741824) :
  Calls Tryz.prog 9 #[.pointer (some ⟨B,0,none⟩),.int .i64 n] w fun e w'=>e = .returned (.int .i64 (nxF l n s).1)∧SrXE B w v l (nxF l n s).2 w':=by
 have HS:=hide h
 have HBT:=hide h.src.bts
 have oS:=h.s0
 clear h
 by_cases k1:n ≤ 1
 ·rw [nxF,if_pos k1]
  go_enter Tryz.func9,Tryz.ntmps9
  go_wp2_with fail
  go_ret
  exact ⟨rfl,U HS,yR _ _⟩
 rw [nxF,if_neg k1]
 by_cases k2:n ≤ 256
 ·rw [if_pos k2]
  have L:=by_bd (U HBT) oS
  have ou:=hide (byte_ex B v l s w (U HS) (by omega))
  generalize byF l s = hj at L ou ⊢
  go_enter Tryz.func9,Tryz.ntmps9
  go_wp2_with fail
  refine (U ou).mono ?_
  rintro e w1 ⟨rfl,hE⟩
  have HE:=hide hE
  clear hE
  have xB:(n == 0) = false:=by simp; omega
  go_wp2_with fail
  go_ret
  exact ⟨zp (by first | rfl | simp),U HE⟩
 rw [if_neg k2]
 have a1:=by_at l s
 have a2:=by_at l (byF l s).2
 have g1:=by_bd (U HBT) oS
 have g2:=by_bd (s:=(byF l s).2) (U HBT) (by_seed oS)
 have g3:=by_bd (s:=(byF l (byF l s).2).2) (U HBT) (by_seed (by_seed oS))
 have xW:=hide (byte_ex B v l s w (U HS) (by omega))
 have xF:=hide (fun W hW=>byte_ex B v l (byF l s).2 W hW (by omega))
 have xT:=hide (fun W hW=>byte_ex B v l (byF l (byF l s).2).2 W hW (by omega))
 generalize byF l (byF l (byF l s).2).2 = R3 at g3 xT ⊢
 generalize byF l (byF l s).2 = R2 at g2 xF xT a2 ⊢
 generalize byF l s = R1 at g1 xW xF a1 a2 ⊢
 clear a1 a2
 go_enter Tryz.func9,Tryz.ntmps9
 go_wp2_with fail
 refine (U xW).mono ?_
 rintro e w1 ⟨rfl,hE⟩
 have pn:=hide hE
 clear hE
 go_wp2_with fail
 refine (U xF w1 (U pn).1).mono ?_
 rintro e w2 ⟨rfl,hE⟩
 have pW:=hide hE
 clear hE
 go_wp2_with fail
 refine (U xT w2 (U pW).1).mono ?_
 rintro e w3 ⟨rfl,hE⟩
 have HE3:=hide hE
 clear hE
 have xB:(n == 0) = false:=by simp; omega
 go_wp2_with fail
 go_ret
 exact ⟨zp (by first | rfl | simp),(U HE3).1,zL (zL (U pn).2 (U pW).2) (U HE3).2⟩
set_option maxHeartbeats 400000 in
theorem chance_ex (B:Nat) (v:Value) (l:List Int) (n:Int) (s:Sr) (w:World) (h:SrX B w v l s) (hm:s.at_ ≤ 1000000000) (Q:1 ≤ n) (N:n ≤ 1073741824) :
  Calls Tryz.prog 22 #[.pointer (some ⟨B,0,none⟩),.int .i64 n] w fun e w'=>e = .returned (.bool ((nxF l n s).1 == n - 1))∧SrXE B w v l (nxF l n s).2 w':=by
 have HN:=hide (aS B v l n s w h hm Q N)
 have hw:IntKind.i64.wrap (n - 1) = n - 1:=by rw [IntKind.wrap_i64]; omega
 clear h
 generalize nxF l n s = hj at HN ⊢
 go_enter Tryz.func22,Tryz.ntmps22
 go_wp2_with fail
 refine (U HN).mono ?_
 rintro e w1 ⟨rfl,hE⟩
 have HE:=hide hE
 clear hE
 go_wp2_with fail
 go_ret
 exact ⟨rfl,U HE⟩
def PrW (p:Nat):Prop:=tkOk p = true→1 ≤ tk p∧tk p ≤ 1000000
end Go.Proofs.YtdliebbfcmdmaaaGreat
namespace Go.Proofs.YtdliebbfcmdmaaaGreat
open Go Ieee

theorem d_bin:double.binade = 4503599627370496:=by decide
theorem d_inf:double.infRung = 9218868437227405312:=by decide
theorem d_sw:double.signWeight = 9223372036854775808:=by decide
theorem d_lp:double.leastPlace = -1074:=by decide
theorem nan_iff (x:Nat):nanB x = true ↔ (double.read x).isNaN = true:=by
 constructor
 ·intro h
  by_cases hn:(double.read x).isNaN = true
  ·exact hn
  ·have:=datum_self _ hn
   have e:FloatKind.f64.format.order x x = some Ordering.eq:=this
   simp [nanB,e] at h
 ·intro h
  cases hx:double.read x with
  | nan s f =>
   have e:FloatKind.f64.format.order x x = none:=by
    show (double.read x).order (double.read x) = none
    rw [hx]; rfl
   simp [nanB,e]
  | infinity s=>rw [hx] at h; simp [Datum.isNaN] at h
  | number s m i=>rw [hx] at h; simp [Datum.isNaN] at h
theorem nan_rung (x:Nat):nanB x = true ↔ 9218868437227405312 < x % 9223372036854775808:=by
 rw [nan_iff]
 unfold Format.read
 simp only [d_bin,d_inf,d_sw,d_lp]
 split
 ·simp [Datum.isNaN]; omega
 ·split
  ·simp [Datum.isNaN]; omega
  ·split
   ·simp [Datum.isNaN]; omega
   ·simp [Datum.isNaN]; omega
theorem nan_drawn (t:Nat):nanB ((t % 2) * 2 ^ 63 + 0x7ff0000000000000 + 1 + (t / 2) % (2 ^ 52 - 1)) = true:=by
 rw [nan_rung]
 have Q:t % 2 < 2:=Nat.mod_lt _ (by decide)
 have N:(t / 2) % (2 ^ 52 - 1) < 2 ^ 52 - 1:=Nat.mod_lt _ (by decide)
 rw [show (2:Nat) ^ 63 = 9223372036854775808 from rfl]
 rw [show (2:Nat) ^ 52 - 1 = 4503599627370495 from rfl] at *
 generalize (t / 2) % 4503599627370495 = b at *
 generalize t % 2 = a at *
 rcases (show a = 0 ∨ a = 1 by omega) with rfl | rfl <;> omega
theorem sub_self (x:Nat) (h:x % 9223372036854775808 < 9218868437227405312):double.sub x x = some 0:=by
 have hr:∃ s m i,double.read x = .number s m i:=by
  unfold Format.read
  simp only [d_bin,d_inf,d_sw,d_lp]
  split
  ·exact ⟨_,_,_,rfl⟩
  ·exact ⟨_,_,_,rfl⟩
 obtain ⟨s,m,i,hx⟩:=hr
 unfold Format.sub
 rw [hx]
 have e:signed s m (i - min i i).toNat + signed (!s) m (i - min i i).toNat = 0:=by
  cases s <;> simp [signed] <;> omega
 simp only [Datum.opposite,Datum.sum,e]
 cases s <;> simp [Format.write,Format.nearest,Format.word]
end Go.Proofs.YtdliebbfcmdmaaaGreat
namespace Go.Proofs.YtdliebbfcmdmaaaGreat
open Go.RowKit Ieee
set_option linter.unusedVariables false

def prB (p:Nat):Bool:=!tkOk p || (decide (1 ≤ tk p) && decide (tk p ≤ 1000000))
theorem prW_of {p:Nat} (h:prB p = true):PrW p:=fun hk=>by
 rw [prB,hk] at h
 simpa using h
theorem prW_nan {x:Nat} (h:nanB x = true):PrW x:=fun hk=>by
 exfalso
 have Q:=(nan_iff x).1 h
 have e:FloatKind.f64.format.order x 0 = none:=by
  show (double.read x).order (double.read 0) = none
  cases hx:double.read x with
  | nan s f=>rfl
  | infinity s=>rw [hx] at Q; simp [Datum.isNaN] at Q
  | number s m i=>rw [hx] at Q; simp [Datum.isNaN] at Q
 rw [tkOk,e] at hk
 simp at hk
end Go.Proofs.YtdliebbfcmdmaaaGreat
namespace Go.Proofs.YtdliebbfcmdmaaaGreat
open Go.RowKit Ieee
set_option linter.unusedVariables false

theorem bh {B:Nat} {w0 w:World} {v:Value} {l:List Int} {s:Sr} (h:SrXE B w0 v l s w) (o:Obj):SrXE B w0 v l s (w.alloc o):=by
 have hB:=bL h.1.src
 exact ⟨⟨(src_alloc (src_refl h.1.src) o).1,h.1.a0,h.1.s0,h.1.s1,(yV _ _ ⟨B,1,none⟩ hB).trans h.1.c1,(yV _ _ ⟨B,2,none⟩ hB).trans h.1.c2⟩,zL h.2 (aY w o _)⟩
theorem bB {B:Nat} {w:World} {v:Value} {l:List Int} {s:Sr} (h:SrX B w v l s):SrXE B w v l s w:=⟨h,yR _ _⟩
def szF (l:List Int) (most:Int):Int:=if 1 + (l.length:Int) / 12 ≤ most then 1 + (l.length:Int) / 12 else most
theorem size_ex (B:Nat) (v:Value) (l:List Int) (most:Int) (s:Sr) (w:World) (h:SrX B w v l s) :
  Calls Tryz.prog 10 #[.pointer (some ⟨B,0,none⟩),.int .i64 most] w fun e w'=>e = .returned (.int .i64 (szF l most))∧w' = w:=by
 have c:=h.src.code
 obtain ⟨a,A,rfl,hl,_⟩:=h.src.rd
 clear h
 by_cases hm:1 + (l.length:Int) / 12 ≤ most
 ·rw [szF,if_pos hm]
  go_enter Tryz.func10,Tryz.ntmps10
  go_wp2_with fail
  all_goals go_ret
  all_goals first | exact ⟨rfl,rfl⟩ | exact ⟨zp (by omega),rfl⟩
 ·rw [szF,if_neg hm]
  go_enter Tryz.func10,Tryz.ntmps10
  go_wp2_with fail
  all_goals go_ret
  all_goals first | exact ⟨rfl,rfl⟩ | exact ⟨zp (by omega),rfl⟩
set_option maxHeartbeats 400000 in
theorem pick_ex (B g n:Nat) (v:Value) (l:List Int) (s:Sr) (ts:List ByteArray) (w:World) (h:SrX B w v l s) (hm:s.at_ ≤ 1000000000) (hg:g ≠ B) (hn:ts.length = n) (Q:1 ≤ n) (N:n ≤ 256) (hr:∀ k t,ts[k]? = some t→w.cell? ⟨g,k,none⟩ = some (.string t)) :
  Calls Tryz.prog 20 #[.pointer (some ⟨B,0,none⟩),.slice (some ⟨g,0,none⟩) n n] w fun e w'=>e = .returned (.string (ts.getD (nxF l n s).1.toNat ⟨#[]⟩))∧SrXE B w v l (nxF l n s).2 w':=by
 have HN:=hide (aS B v l n s w h hm (by omega) (by omega))
 have HR:=hide hr
 have L:((n:Int) == 0) = false:=by simp; omega
 obtain ⟨y0,y1⟩:=nx_bd (l:=l) (n:=n) (s:=s) (by omega)
 clear h hr
 generalize nxF l n s = hj at HN y0 y1 ⊢
 obtain ⟨y,s'⟩:=hj
 simp only at HN y0 y1 ⊢
 obtain ⟨k,rfl⟩:=Int.eq_ofNat_of_zero_le y0
 go_enter Tryz.func20,Tryz.ntmps20
 go_wp2_with fail
 refine (U HN).mono ?_
 rintro e w1 ⟨rfl,hE⟩
 have HE:=hide hE
 have hk:k < n:=by omega
 obtain ⟨t,ht⟩:∃ t,ts[k]? = some t:=⟨_,yH (by omega)⟩
 have hc:=hE.2.cell (U HR k t ht) (fun e=>hg (Option.some.inj e))
 have HT:Hid (ts.getD (k:Int).toNat ⟨#[]⟩ = t):=by show _ = _; rw [Int.toNat_natCast,List.getD_eq_getElem?_getD,ht]; rfl
 clear hE ht
 go_wp2_with fail
 go_ret
 rw [U HT]
 exact ⟨rfl,U HE⟩
def oddL:List Int:=[0,-1,1,2,63,64,65,4096,4097,9223372036854775807,-9223372036854775808,30]
set_option maxRecDepth 100000 in
set_option maxHeartbeats 800000 in
theorem odd_ex (B:Nat) (v:Value) (l:List Int) (s:Sr) (w:World) (h:SrX B w v l s) (hm:s.at_ ≤ 1000000000) :
  Calls Tryz.prog 68 #[.pointer (some ⟨B,0,none⟩)] w fun e w'=>e = .returned (.int .i64 (oddL.getD (nxF l 12 s).1.toNat 0))∧SrXE B w v l (nxF l 12 s).2 w':=by
 have hB:=bL h.src
 have HN:=hide (fun W hW=>aS B v l 12 s W hW hm (by omega) (by omega))
 have HX:=hide (bG w (oddL.map (.int .i64)) 3)
 have HA:=hide (fun o=>bh (bB h) o)
 obtain ⟨y0,y1⟩:=nx_bd (l:=l) (n:=12) (s:=s) (by omega)
 clear h
 generalize nxF l 12 s = hj at HN y0 y1 ⊢
 obtain ⟨y,s'⟩:=hj
 simp only at HN y0 y1 ⊢
 obtain ⟨k,rfl⟩:=Int.eq_ofNat_of_zero_le y0
 go_enter Tryz.func68,Tryz.ntmps68
 go_wp2_with fail
 refine (U HN _ (U HA _).1).mono ?_
 rintro e w1 ⟨rfl,hE⟩
 obtain ⟨t,ht⟩:∃ t,oddL[k]? = some t:=⟨_,yH (by show k < 12; omega)⟩
 have hc:=hE.2.cell (aM (U HX) k (u:=.int .i64 t) (by rw [List.getElem?_map,ht]; rfl)) (fun e=>by have:=Option.some.inj e; simp at this; omega)
 have HE:=hide (show SrXE B w v l s' w1 from ⟨hE.1,zL (aY w _ _) hE.2⟩)
 have HT:Hid (oddL.getD (k:Int).toNat 0 = t):=by show _ = _; rw [Int.toNat_natCast,List.getD_eq_getElem?_getD,ht]; rfl
 clear hE ht HN HX HA
 go_wp2_with fail
 go_ret
 rw [U HT]
 exact ⟨rfl,U HE⟩
def nuF (l:List Int) (s:Sr):Int × Sr :=
 if ((nxF l 4 s).1 == 3) = true then (oddL.getD (nxF l 12 (nxF l 4 s).2).1.toNat 0,(nxF l 12 (nxF l 4 s).2).2)
 else ((nxF l 400 (nxF l 4 s).2).1 - 100,(nxF l 400 (nxF l 4 s).2).2)
set_option maxRecDepth 100000 in
set_option maxHeartbeats 800000 in
theorem number_ex (B:Nat) (v:Value) (l:List Int) (s:Sr) (w:World) (h:SrX B w v l s) (hm:s.at_ ≤ 900000000) :
  Calls Tryz.prog 39 #[.pointer (some ⟨B,0,none⟩)] w fun e w'=>e = .returned (.int .i64 (nuF l s).1)∧SrXE B w v l (nuF l s).2 w':=by
 have hat:=aC l 4 s
 have HC:=hide (chance_ex B v l 4 s w h (by omega) (by omega) (by omega))
 have HO:=hide (fun W hW=>odd_ex B v l (nxF l 4 s).2 W hW (by omega))
 have HN:=hide (fun W hW=>aS B v l 400 (nxF l 4 s).2 W hW (by omega) (by omega) (by omega))
 have hbd:=nx_bd (l:=l) (n:=400) (s:=(nxF l 4 s).2) (by omega)
 clear h hat
 have e3:(4:Int) - 1 = 3:=rfl
 rw [nuF]
 generalize nxF l 400 (nxF l 4 s).2 = R2 at HN hbd ⊢
 generalize nxF l 12 (nxF l 4 s).2 = R3 at HO ⊢
 generalize nxF l 4 s = R1 at HC HO HN ⊢
 rw [e3] at HC
 by_cases L:(R1.1 == 3) = true
 ·rw [if_pos L]
  go_enter Tryz.func39,Tryz.ntmps39
  go_wp2_with fail
  refine (U HC).mono ?_
  rintro e w1 ⟨rfl,hE⟩
  have HE:=hide hE
  rw [L]
  clear hE HC e3 L
  go_wp2_with fail
  refine (U HO w1 (U HE).1).mono ?_
  rintro e w2 ⟨rfl,hE2⟩
  have pW:=hide hE2
  clear hE2
  go_wp2_with fail
  go_ret
  exact ⟨rfl,(U pW).1,zL (U HE).2 (U pW).2⟩
 ·rw [if_neg L]
  have kL:(R1.1 == 3) = false:=by simpa using L
  have hw:IntKind.i64.wrap (R2.1 - 100) = R2.1 - 100:=by rw [IntKind.wrap_i64]; omega
  go_enter Tryz.func39,Tryz.ntmps39
  go_wp2_with fail
  refine (U HC).mono ?_
  rintro e w1 ⟨rfl,hE⟩
  have HE:=hide hE
  rw [kL]
  clear hE HC e3 L kL
  go_wp2_with fail
  refine (U HN w1 (U HE).1).mono ?_
  rintro e w2 ⟨rfl,hE2⟩
  have pW:=hide hE2
  clear hE2
  go_wp2_with fail
  go_ret
  exact ⟨rfl,(U pW).1,zL (U HE).2 (U pW).2⟩
end Go.Proofs.YtdliebbfcmdmaaaGreat
namespace Go.Proofs.YtdliebbfcmdmaaaGreat
open Go.RowKit Ieee
set_option linter.unusedVariables false

def PEq (y z:Nat):Prop:=y = z ∨ (nanB y = true∧nanB z = true∧y < 18446744073709551616∧z < 18446744073709551616)
def fltL:List Nat:=[0,9223372036854775808,9221120237041090560,9218868437227405312,18442240474082181120,4598175219545276416,4636737291354636288,4636719699168591872,4687829947429945344,4687829956019879936,4591870180066957722,13830554455654793216,9223372036854775808,9094988921128908188,1]
theorem copysign_ex (w:World):Calls Tryz.prog 70 #[.float .f64 0,.float .f64 13830554455654793216] w fun e w'=>∃ y:Nat,e = .returned (.float .f64 y)∧y = 9223372036854775808∧w' = w:=by
 have Q:=fbits
 have N:=frombitsS
 go_enter Tryz.func70,Tryz.ntmps70
 go_wp2_with fail
 go_ret
 exact ⟨_,rfl,by kernel_rfl,rfl⟩
theorem nanOf_nan (W:World):nanB (nanOf W) = true:=by
 have h:nanOf W = (W.tape W.drawn (.nanBits .f64 0 0) % 2) * 2 ^ 63 + 0x7ff0000000000000 + 1 + (W.tape W.drawn (.nanBits .f64 0 0) / 2) % (2 ^ 52 - 1):=rfl
 rw [h]
 exact nan_drawn _
theorem nanOf_ltX (W:World):nanOf W < 18446744073709551616:=by
 have h:nanOf W = (W.tape W.drawn (.nanBits .f64 0 0) % 2) * 2 ^ 63 + 0x7ff0000000000000 + 1 + (W.tape W.drawn (.nanBits .f64 0 0) / 2) % (2 ^ 52 - 1):=rfl
 rw [h]
 generalize W.tape W.drawn (.nanBits .f64 0 0) = t
 have N:(t / 2) % (2 ^ 52 - 1) < 2 ^ 52 - 1:=Nat.mod_lt _ (by decide)
 omega
theorem float_rowX (k n y:Nat) (w:World) (t:TypeId) (h:k < 15) (hn:nanB n = true) (L:n < 18446744073709551616) (hy:y = 9223372036854775808) :
  ∃ z:Nat,PEq z (fltL.getD k 0)∧(w.alloc (.cells #[.float .f64 0,.float .f64 9223372036854775808,.float .f64 n,.float .f64 9218868437227405312,.float .f64 18442240474082181120,.float .f64 4598175219545276416,.float .f64 4636737291354636288,.float .f64 4636719699168591872,
   .float .f64 4687829947429945344,.float .f64 4687829956019879936,.float .f64 4591870180066957722,.float .f64 13830554455654793216,.float .f64 y,.float .f64 9094988921128908188,.float .f64 1] t)).cell? ⟨w.heap.size,k,none⟩ = some (.float .f64 z):=by
 rcases (show k = 0 ∨ k = 1 ∨ k = 2 ∨ k = 3 ∨ k = 4 ∨ k = 5 ∨ k = 6 ∨ k = 7 ∨ k = 8 ∨ k = 9 ∨ k = 10 ∨ k = 11 ∨ k = 12 ∨ k = 13 ∨ k = 14 by omega) with rfl | rfl | rfl | rfl | rfl | rfl | rfl | rfl | rfl | rfl | rfl | rfl | rfl | rfl | rfl
 all_goals first | exact ⟨_,.inr ⟨hn,by decide +kernel,L,by decide⟩,cell_of_row _ _ _ _ _ (0,0) (heap_alloc_new w _)⟩ | exact ⟨_,.inl rfl,cell_of_row _ _ _ _ _ (0,0) (heap_alloc_new w _)⟩ | exact ⟨_,.inl hy,cell_of_row _ _ _ _ _ (0,0) (heap_alloc_new w _)⟩
set_option maxRecDepth 100000 in
set_option maxHeartbeats 800000 in
theorem float_ex (B:Nat) (v:Value) (l:List Int) (s:Sr) (w:World) (h:SrX B w v l s) (hm:s.at_ ≤ 900000000) :
  Calls Tryz.prog 40 #[.pointer (some ⟨B,0,none⟩)] w fun e w'=>∃ y:Nat,e = .returned (.float .f64 y)∧PEq y (fltL.getD (nxF l 15 s).1.toNat 0)∧SrXE B w v l (nxF l 15 s).2 w':=by
 have HS:=hide h
 have hB:=bL h.src
 have HN:=hide (fun W hW=>aS B v l 15 s W hW (by omega) (by omega) (by omega))
 obtain ⟨y0,y1⟩:=nx_bd (l:=l) (n:=15) (s:=s) (by omega)
 clear h
 generalize nxF l 15 s = hj at HN y0 y1 ⊢
 obtain ⟨yy,s'⟩:=hj
 simp only at HN y0 y1 ⊢
 obtain ⟨k,rfl⟩:=Int.eq_ofNat_of_zero_le y0
 rw [Int.toNat_natCast]
 have e1:=neg_zero
 have e2:=one_zero
 have e3:=less_zero
 have e4:=zero_zero
 go_enter Tryz.func40,Tryz.ntmps40
 go_wp2_with (first | (go_at_call 69; refine (zero_any _).mono ?_; rintro e w' ⟨rfl,rfl⟩) | (go_at_call 70; refine (copysign_ex _).mono ?_; rintro e w' ⟨yc,rfl,rfl,rfl⟩))
 have hn:=nanOf_nan w'
 have hnb:=nanOf_ltX w'
 generalize nanOf w' = n0 at *
 refine (U HN _ (srX_drew (bh (bB (U HS)) _) 1).1).mono ?_
 rintro e w1 ⟨rfl,hE⟩
 obtain ⟨z,uC,hz⟩:=float_rowX k n0 9223372036854775808 w' 25 (by omega) hn hnb rfl
 have HE:=hide (show SrXE B w' v l s' w1 from ⟨hE.1,zL (zL (aY w' _ _) (gr_drewN _ 1 _)) hE.2⟩)
 have HZ:=hide uC
 have hc:=hE.2.cell (show (World.drewN _ 1).cell? _ = _ from hz) (by simp; omega)
 clear hE hz e1 e2 e3 e4 uC hnb
 go_wp2_with fail
 go_ret
 exact ⟨_,rfl,U HZ,U HE⟩
set_option maxHeartbeats 400000 in
theorem tag_ex (B:Nat) (v:Value) (l:List Int) (s:Sr) (w:World) (h:SrX B w v l s) (hm:s.at_ ≤ 1000000000) :
  Calls Tryz.prog 41 #[.pointer (some ⟨B,0,none⟩)] w fun e w'=>e = .returned (.string (tags8.getD (nxF l 8 s).1.toNat ⟨#[]⟩))∧SrXE B w v l (nxF l 8 s).2 w':=by
 have HS:=hide h
 have hB:=bL h.src
 clear h
 have HX:=hide (bG w (tags8.map .string) 9)
 go_enter Tryz.func41,Tryz.ntmps41
 go_wp2_with fail
 refine (pick_ex B w.heap.size 8 v l s tags8 _ (bh (bB (U HS)) _).1 hm (by omega) rfl (by omega) (by omega) (fun k t ht=>aM (U HX) k (by rw [List.getElem?_map,ht]; rfl))).mono ?_
 rintro e w1 ⟨rfl,hE⟩
 have HE:=hide (show SrXE B w v l (nxF l (8:Nat) s).2 w1 from ⟨hE.1,zL (aY w _ _) hE.2⟩)
 clear hE HX
 go_wp2_with fail
 go_ret
 exact ⟨rfl,U HE⟩
end Go.Proofs.YtdliebbfcmdmaaaGreat
namespace Go.Proofs.YtdliebbfcmdmaaaGreat
open Go.RowKit
def DrOk (c:Cm):Prop:=c.g.size ≤ 20∧PrW c.p
end Go.Proofs.YtdliebbfcmdmaaaGreat
