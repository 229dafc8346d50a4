/-
  What the reading of a text does, proved by walking it: the text's bytes behind their number, or the reader's fault.
-/
import Derived.Test.YtnphbkgfjanmgaaGreatDoorDj21
import Derived.Lib.AppendStr
set_option linter.unusedVariables false
set_option maxHeartbeats 6400000
set_option maxRecDepth 100000
namespace Go.Proofs.YtnphbkgfjanmgaaGreatDoor
open Go.RowKit
theorem take_zero (B:Nat) (k:Nat) (a:Option Addr) (len cap:Nat) (w:World) (hr:Rdr B w (.slice a len cap) k) (N:k ≤ len) (hl:len ≤ 1073741824) (uq:len ≤ cap) :
  Calls Tryz.prog 163 #[.pointer (some ⟨B,0,none⟩),I 0] w fun e w'=>(∃ a' c',e = .returned (.slice a' 0 c'))∧∃ q,w' = (w.setCell ⟨B,1,none⟩ (I k)).drewN q:=by
 obtain ⟨c1,c2,c3⟩:=hr
 have pp:(k:Int) ≤ len:=by omega
 have oE:¬ ((len:Int) - k < 0):=by omega
 have h3':(k:Int) ≤ cap:=by omega
 go_enter Tryz.func163,Tryz.ntmps163
 go_wp2_with fail
 go_quiet (fail)
 go_wp2_with fail
 go_quiet (fail)
 go_wp2_with fail
 all_goals go_ret
 all_goals exact ⟨⟨_,_,by simp; exact ⟨rfl,rfl⟩⟩,_,rfl⟩
def textA (l:List Int) (k:Nat):Option (ByteArray × Nat) :=
 match getU l k with
 | none=>none
 | some (u,n)=>if unz u < 0 ∨ 13 < unz u ∨ (l.length:Int) - n < unz u then none else some (strB ((l.drop n).take (unz u).toNat),n + (unz u).toNat)
theorem textA_no {l:List Int} {k:Nat} (h:getU l k = none):textA l k = none:=by unfold textA; rw [h]
theorem textA_bad {l:List Int} {k u n:Nat} (h:getU l k = some (u,n)) (E:unz u < 0 ∨ 13 < unz u ∨ (l.length:Int) - n < unz u):textA l k = none:=by
 unfold textA; rw [h]; simp only; rw [if_pos E]
theorem textA_yes {l:List Int} {k u n:Nat} (h:getU l k = some (u,n)) (E:¬ (unz u < 0 ∨ 13 < unz u ∨ (l.length:Int) - n < unz u)) :
  textA l k = some (strB ((l.drop n).take (unz u).toNat),n + (unz u).toNat):=by
 unfold textA; rw [h]; simp only; rw [if_neg E]
theorem getU_le:∀ (f i u:Nat) (l:List Int) (k v n:Nat),scan l k f i u = some (v,n)→n ≤ l.length∧k ≤ n
 | 0,_,_,_,_,_,_,h=>by simp [scan] at h
 | f + 1,i,u,l,k,v,n,h=>by
  rw [scan] at h
  split at h
  ·cases h
  ·split at h
   ·cases h
   ·split at h
    ·simp only [Option.some.injEq,Prod.mk.injEq] at h; omega
    ·exact getU_le f (i + 1) _ l k v n h
def TxtEnd (B:Nat) (v:Value) (w:World) (r:Option (ByteArray × Nat)) (e:Ending) (w':World):Prop :=
 w.grownBy w' (some B)∧(∀ s next,r = some (s,next)→e = .returned (yl s)∧Rdr B w' v next)∧(r = none→∃ p,e = .panicked (bI 3 p))
theorem ff {B:Nat} {v:Value} {w w':World} {r:Option (ByteArray × Nat)} (hg:w.grownBy w' (some B)) (hr:r = none) (p:Int):TxtEnd B v w r (.panicked (bI 3 p)) w' :=
 ⟨hg,(fun _ _ h=>by rw [hr] at h; cases h),fun _=>⟨p,rfl⟩⟩
theorem piece_rd {w:World} {b off cap n c:Nat} {l:List Int} (h:∀ i,i < l.length→w.cell? ⟨b,off + i,none⟩ = some (.int .u8 (l.getD i 0))) (hn:n + c ≤ l.length) (hl:l.length ≤ 65536) :
  Rd w (.slice (some ⟨b,off + n,none⟩) c cap) ((l.drop n).take c):=by
 have xA:((l.drop n).take c).length = c:=by rw [List.length_take,List.length_drop]; omega
 refine ⟨_,cap,by rw [xA],by omega,fun _=>⟨b,off + n,rfl,fun i hi=>?_⟩⟩
 rw [xA] at hi
 have:=h (n + i) (by omega)
 rw [Nat.add_assoc,this]
 have e:((l.drop n).take c).getD i 0 = l.getD (n + i) 0:=by simp [hi,List.getElem?_drop]
 rw [e]
theorem txtEnd_done {B:Nat} {v:Value} {w w':World} {r:Option (ByteArray × Nat)} {s:ByteArray} {n:Nat} (hg:w.grownBy w' (some B)) (hr:r = some (s,n)) (h:Rdr B w' v n):TxtEnd B v w r (.returned (yl s)) w' :=
 ⟨hg,(fun a b h'=>by rw [hr] at h'; cases h'; exact ⟨rfl,h⟩),(fun h'=>by rw [hr] at h'; cases h')⟩
theorem text_any (B:Nat) (v:Value) (l:List Int) (k:Nat) (w w0:World) (xO:Rd w v l) (uq:CapOk v) (vW:w.heap.size ≤ B) (xl:yp w w0) (hr:Rdr B w0 v k) (hk:k ≤ l.length) (hl:l.length ≤ 65536) (E:Bts l) :
  Calls Tryz.prog 191 #[.pointer (some ⟨B,0,none⟩)] w0 fun e w'=>TxtEnd B v w0 (textA l k) e w':=by
 have HN:=H (number_any B v l k w w0 xO uq vW xl hr hk hl E)
 have HRd:=H xO
 have HBl:=H xl
 have hv:=rd_len xO
 have HCap:=H uq
 clear xO xl hr uq
 go_enter Tryz.func191,Tryz.ntmps191
 go_wp2_with fail
 refine (U HN).mono ?_
 rintro e w1 hN
 cases hg:getU l k with
 | none =>
  obtain ⟨p,rfl⟩:=hN.2.2 hg
  have HG:=H hN.1
  have HT:=H (textA_no hg)
  clear hN hg
  go_wp2_with fail
  exact ⟨rfl,ff (U HG) (U HT) _⟩
 | some x =>
  obtain ⟨u,n⟩:=x
  obtain ⟨rfl,hrn⟩:=hN.2.1 u n hg
  have HG:=H hN.1
  have ay:=H hrn
  have qj:=getU_le 10 0 0 l k u n hg
  have pD:=H (fun h=>textA_bad hg h)
  have HYes:=H (fun h=>textA_yes hg h)
  clear hN hrn hg
  generalize unz u = z at *
  obtain ⟨hn1,hn2⟩:=qj
  by_cases hbad:z < 0 ∨ 13 < z
  ·have HT:=H (U pD (by omega))
   rcases (show z < 0 ∨ (0 ≤ z∧13 < z) by omega) with N | ⟨N,Y⟩
   all_goals
    clear hbad
    go_wp2_with fail
    refine (cH B 3 _ _ _ (U ay)).mono ?_
    rintro e w2 ⟨rfl,rfl⟩
    go_wp2_with fail
    exact ⟨rfl,ff (U HG) (U HT) _⟩
  ·obtain ⟨c,rfl⟩:=Int.eq_ofNat_of_zero_le (show 0 ≤ z by omega)
   have hc13:(c:Int) ≤ 13:=by omega
   clear hbad
   obtain ⟨a,cap,hva⟩:=hv
   by_cases hlong:(l.length:Int) - n < c
   ·have HT:=H (U pD (by omega))
    rw [hva] at ay
    go_wp2_with fail
    refine (take_end B c n a l.length cap _ (U ay) (by omega) (by omega) (by omega) hlong (by omega)).mono ?_
    rintro e w2 ⟨rfl,q,rfl⟩
    go_wp2_with fail
    exact ⟨rfl,ff (bm (U HG) (bS _ _ _)) (U HT) _⟩
   ·have HY:=H (U HYes (by omega))
    rw [Int.toNat_natCast] at HY
    rw [hva] at ay
    by_cases kB:c = 0
    ·subst kB
     go_wp2_with fail
     refine (take_zero B n a l.length cap _ (U ay) (by omega) (by omega) ((U HCap) _ _ _ hva)).mono ?_
     rintro e w2 ⟨⟨a',c',rfl⟩,q,rfl⟩
     have hcv:=fun W=>conv_text (.slice a' 0 c') [] W ⟨a',c',rfl,by simp,fun h=>absurd rfl h⟩
     have HRw:=H (((U ay).step (n:Int)).drewN q)
     have HGw:=H (bm (U HG) (bm (gr_set w1 ⟨B,1,none⟩ (I (n:Int))) (bS _ q _)))
     have HY':Hid (textA l k = some (strB [],n)):=U HY
     generalize strB [] = s at *
     have HVA:=H hva
     clear hva
     go_wp2_with fail
     go_ret
     exact txtEnd_done (U HGw) (U HY') (by rw [U HVA]; exact U HRw)
    ·have xD:l ≠ []:=by intro h; rw [h] at hn1 hlong; simp at hn1 hlong; omega
     obtain ⟨a2,cap2,e2,_,xt⟩:=U HRd
     rw [hva] at e2
     simp only [Value.slice.injEq,true_and] at e2
     obtain ⟨rfl,rfl⟩:=e2
     obtain ⟨b,off,rfl,X⟩:=xt xD
     have kz:b < w.heap.size:=yL w _ (X 0 (List.length_pos_iff.2 xD))
     have pQ:∀ i,i < l.length→w1.cell? ⟨b,off + i,none⟩ = some (.int .u8 (l.getD i 0)):=fun i hi =>
      (U HG).cell (((U HBl).cell (p:=⟨b,off + i,none⟩) kz).trans (X i hi)) (by show some b ≠ some B; intro e; injection e; omega)
     go_wp2_with fail
     refine (take_ok B c n b off l.length cap _ (U ay) (by omega) (by omega) ((U HCap) _ _ _ hva) (by omega)).mono ?_
     rintro e w2 ⟨rfl,q,rfl⟩
     have hcl2:∀ i,i < l.length→((w1.setCell ⟨B,1,none⟩ (I (n + c:Nat))).drewN q).cell? ⟨b,off + i,none⟩ = some (.int .u8 (l.getD i 0)):=fun i hi=>by
      rw [World.cell?_drewN,yM _ _ _ _ (by intro e; injection e; omega)]; exact pQ i hi
     have hcv:=conv_text _ _ _ (piece_rd (cap:=cap - n) hcl2 (show n + c ≤ l.length by omega) hl)
     simp only [Int.natCast_add] at hcv
     have HRw:=H (((U ay).step ((n + c:Nat):Int)).drewN q)
     have HGw:=H (bm (U HG) (bm (gr_set w1 ⟨B,1,none⟩ (I ((n + c:Nat):Int))) (bS _ q _)))
     generalize strB ((l.drop n).take c) = s at *
     clear pQ hcl2 X xt
     have HVA:=H hva
     clear hva
     go_wp2_with fail
     go_ret
     exact txtEnd_done (U HGw) (U HY) (by rw [U HVA]; exact U HRw)
structure RSr (wb:World) (hR:Nat) (v:Value) (l:List Int) (k:Nat) (W:World):Prop where
 rd:Rd wb v l
 cap:CapOk v
 le:wb.heap.size ≤ hR
 bel:Below wb.heap.size wb W
 r:Rdr hR W v k
 kk:k ≤ l.length
 ll:l.length ≤ 65536
 bb:Bts l
theorem RSr.lt {wb:World} {hR:Nat} {v:Value} {l:List Int} {k:Nat} {W:World} (h:RSr wb hR v l k W):hR < W.heap.size:=yL W _ h.r.1
theorem RSr.go {wb:World} {hR:Nat} {v:Value} {l:List Int} {k n:Nat} {W W':World} (h:RSr wb hR v l k W) (hg:W.grownBy W' (some hR)) (hr:Rdr hR W' v n) (hn:n ≤ l.length):RSr wb hR v l n W' :=
 ⟨h.rd,h.cap,h.le,h.bel.trans (gr_below hg h.le h.bel.size),hr,hn,h.ll,h.bb⟩
theorem RSr.keep {wb:World} {hR:Nat} {v:Value} {l:List Int} {k:Nat} {W W':World} (h:RSr wb hR v l k W) (E:yp wb W') (hr:Rdr hR W' v k):RSr wb hR v l k W':=⟨h.rd,h.cap,h.le,E,hr,h.kk,h.ll,h.bb⟩
theorem RSr.below {wb:World} {hR C:Nat} {v:Value} {l:List Int} {k:Nat} {W W':World} (h:RSr wb hR v l k W) (E:Below C W W') (hC:hR < C):RSr wb hR v l k W' :=
 h.keep (h.bel.trans (E.mono (Nat.le_of_lt (Nat.lt_of_le_of_lt h.le hC)))) (dO h.r E hC)
theorem number_rs {wb:World} {hR:Nat} {v:Value} {l:List Int} {k:Nat} {W:World} (h:RSr wb hR v l k W):Calls Tryz.prog 187 #[.pointer (some ⟨hR,0,none⟩)] W fun e w'=>NumEnd hR v W (getU l k) e w' :=
 number_any hR v l k wb W h.rd h.cap h.le h.bel h.r h.kk h.ll h.bb
theorem float_rs {wb:World} {hR:Nat} {v:Value} {l:List Int} {k:Nat} {W:World} (h:RSr wb hR v l k W):Calls Tryz.prog 189 #[.pointer (some ⟨hR,0,none⟩)] W fun e w'=>FltEnd hR v W (bQ l k) e w' :=
 float_any hR v l k wb W h.rd h.cap h.le h.bel h.r h.kk h.ll h.bb
theorem text_rs {wb:World} {hR:Nat} {v:Value} {l:List Int} {k:Nat} {W:World} (h:RSr wb hR v l k W):Calls Tryz.prog 191 #[.pointer (some ⟨hR,0,none⟩)] W fun e w'=>TxtEnd hR v W (textA l k) e w' :=
 text_any hR v l k wb W h.rd h.cap h.le h.bel h.r h.kk h.ll h.bb
theorem floatA_le {l:List Int} {k x n:Nat} (h:bQ l k = some (x,n)):n ≤ l.length∧k ≤ n:=by
 unfold bQ at h
 split at h
 ·cases h
 ·split at h
  ·cases h
  ·simp only [Option.some.injEq,Prod.mk.injEq] at h; omega
theorem textA_le {l:List Int} {k n:Nat} {s:ByteArray} (h:textA l k = some (s,n)):n ≤ l.length∧k ≤ n:=by
 unfold textA at h
 split at h
 ·cases h
 ·next u m hm =>
  have:=getU_le 10 0 0 l k u m hm
  split at h
  ·cases h
  ·simp only [Option.some.injEq,Prod.mk.injEq] at h; omega
def rdF (o:Nat) (l:List Int) (k:Nat):Option (Value × Nat) :=
 if o = 7 then (bQ l k).map fun x=>(yk x.1,x.2) else if o = 8 then (textA l k).map fun x=>(yl x.1,x.2) else (getU l k).map fun x=>(I (unz x.1),x.2)
structure Gr2 (hR hb:Nat) (w w':World):Prop where
 os:w'.os = w.os
 tape:w'.tape = w.tape
 output:w'.output = w.output
 size:w.heap.size ≤ w'.heap.size
 block:∀ i,i < w.heap.size→i ≠ hR→i ≠ hb→w'.heap[i]? = w.heap[i]?
theorem gr2_gr {hR hb:Nat} {w w':World} (h:w.grownBy w' (some hR)):Gr2 hR hb w w':=⟨h.os,h.tape,h.output,h.size,fun i hi R _=>h.block i hi (by simpa using R)⟩
theorem gr2_set {hR hb j:Nat} {u:Value} {w w':World} (h:Gr2 hR hb w w'):Gr2 hR hb w (w'.setCell ⟨hb,j,none⟩ u) :=
 ⟨h.os,h.tape,h.output,by have:=h.size; simpa [World.setCell] using this,fun i hi R hE=>by rw [yT _ _ _ _ (by show i ≠ hb; exact hE)]; exact h.block i hi R hE⟩
theorem gr2_on {hR hb:Nat} {w W W':World} (h:w.grownBy W (some hR)) (Y:Gr2 hR hb W W') (hE:w.heap.size ≤ hb):w.grownBy W' (some hR) :=
 ⟨Y.os.trans h.os,Y.tape.trans h.tape,Y.output.trans h.output,yO h.size Y.size,fun i hi R=>by
  rw [Y.block i (yK hi h.size) (by simpa using R) (by omega)]; exact h.block i hi R⟩
def FdEnd (wb:World) (hR hb:Nat) (v:Value) (l:List Int) (o:Nat) (vs:List Value) (W:World) (r:Option (Value × Nat)) (e:Ending) (w':World):Prop :=
 Gr2 hR hb W w'∧(∀ x n,r = some (x,n)→e = .returned (.tuple #[])∧RSr wb hR v l n w'∧Bx w' hb (vs.set o x))∧(r = none→∃ p,e = .panicked (bI 3 p))
theorem fdEnd_fail {wb:World} {hR hb:Nat} {v:Value} {l:List Int} {o:Nat} {vs:List Value} {W w':World} {r:Option (Value × Nat)} (hg:W.grownBy w' (some hR)) (hr:r = none) (p:Int):FdEnd wb hR hb v l o vs W r (.panicked (bI 3 p)) w' :=
 ⟨gr2_gr hg,(fun _ _ h=>by rw [hr] at h; cases h),fun _=>⟨p,rfl⟩⟩
theorem fdEnd_done {wb:World} {hR hb:Nat} {v:Value} {l:List Int} {o k:Nat} {vs:List Value} {W w':World} {r:Option (Value × Nat)} {x:Value} {n:Nat} (hs:RSr wb hR v l k W) (hx:Bx W hb vs) (hg:W.grownBy w' (some hR)) (hE:hR < hb) (hr:r = some (x,n)) (hn:n ≤ l.length)
  (h:Rdr hR w' v n) (Z:o < vs.length):FdEnd wb hR hb v l o vs W r (.returned (.tuple #[])) (w'.setCell ⟨hb,o,none⟩ x):=by
 have hEw:hb < W.heap.size:=by
  have:=(hx.t 0 (by omega)).1
  obtain ⟨y,hy⟩:=Option.isSome_iff_exists.1 this
  exact yL W _ hy
 have hx':Bx w' hb vs:=aO hx (hg.block hb hEw (by simp; omega))
 refine ⟨gr2_set (gr2_gr hg),(fun y m h'=>?_),(fun h'=>by rw [hr] at h'; cases h')⟩
 rw [hr] at h'; cases h'
 have N:=hs.go hg h hn
 refine ⟨rfl,N.keep ?_ ?_,aX hx' Z⟩
 ·exact N.bel.setCell (p:=⟨hb,o,none⟩) (show wb.heap.size ≤ hb from Nat.le_of_lt (Nat.lt_of_le_of_lt hs.le hE)) _
 ·exact rdr_grown h (gr_set w' ⟨hb,o,none⟩ x) (by show hR ≠ hb; omega)
theorem rdF_num {o k:Nat} {l:List Int} (h:plcO o = true):rdF o l k = (getU l k).map fun x=>(I (unz x.1),x.2):=by
 unfold plcO at h
 unfold rdF
 rw [if_neg (by intro e; subst e; simp at h),if_neg (by intro e; subst e; simp at h)]
theorem plc_enter (o:Nat) (h:plcO o = true) (args:Array Value) (W:World):(callFunc (plcV o) args).run Tryz.prog W = .ok (.enter (plcV o) args) W:=by
 rcases (show o = 1 ∨ o = 2 ∨ o = 3 ∨ o = 4 ∨ o = 5 ∨ o = 6 ∨ o = 9 ∨ o = 10 ∨ o = 11 ∨ o = 12 ∨ o = 13 by simp [plcO] at h; omega) with rfl | rfl | rfl | rfl | rfl | rfl | rfl | rfl | rfl | rfl | rfl
 all_goals kernel_rfl
theorem readNum_any (wb:World) (hR hb b o:Nat) (v:Value) (l:List Int) (k:Nat) (vs:List Value) (W:World) (hs:RSr wb hR v l k W) (hx:Bx W hb vs) (hE:hR < hb) (Z:plcO o = true) (hv:vs.length = 14) (hbR:hR ≠ b) (hc:W.cell? ⟨b,0,none⟩ = some (.func (.func (plcV o)) #[] #[])) :
  Calls Tryz.prog 186 #[.pointer (some ⟨hR,0,none⟩),.pointer (some ⟨hb,0,none⟩),.pointer (some ⟨b,0,none⟩)] W fun e w'=>FdEnd wb hR hb v l o vs W (rdF o l k) e w':=by
 have kg:o < vs.length:=by unfold plcO at Z; simp at Z; omega
 have HP:=H (fun W=>plc_any o hb W Z)
 have hpe:=plc_enter o Z
 have HF:=H (rdF_num (l:=l) (k:=k) Z)
 have HS:=H hs
 have HX:=H hx
 have HV:=H hv
 clear hs hx Z hv
 generalize plcV o = f at *
 go_enter Tryz.func186,Tryz.ntmps186
 go_wp2_with fail
 refine (U HP _).mono ?_
 rintro e w1 ⟨rfl,qx⟩
 rw [qx]
 clear qx
 go_wp2_with fail
 refine (number_rs (U HS)).mono ?_
 rintro e w2 hN
 cases hg:getU l k with
 | none =>
  obtain ⟨p,rfl⟩:=hN.2.2 hg
  have HG:=H hN.1
  have HT:Hid (rdF o l k = none):=(U HF).trans (by simp [hg])
  clear hN hg
  go_wp2_with fail
  exact ⟨rfl,fdEnd_fail (U HG) (U HT) _⟩
 | some x =>
  obtain ⟨u,n⟩:=x
  obtain ⟨rfl,hrn⟩:=hN.2.1 u n hg
  have HG:=H hN.1
  have ay:=H hrn
  have HN:=H (getU_le 10 0 0 l k u n hg).1
  have HT:Hid (rdF o l k = some (I (unz u),n)):=(U HF).trans (by simp [hg])
  clear hN hrn hg
  have pg:Bx w2 hb vs:=aO (U HX) ((U HG).block hb (by
   obtain ⟨y,hy⟩:=Option.isSome_iff_exists.1 ((U HX).t 0 (by omega)).1
   exact yL W _ hy) (by simp; omega))
  have c0:=K pg o (yI kg)
  have f0:=zd pg o kg
  clear pg
  generalize unz u = z at *
  go_wp2_with fail
  go_end0
  exact fdEnd_done (U HS) (U HX) (U HG) hE (U HT) (U HN) (U ay) kg
theorem readPrice_any (wb:World) (hR hb:Nat) (v:Value) (l:List Int) (k:Nat) (vs:List Value) (W:World) (hs:RSr wb hR v l k W) (hx:Bx W hb vs) (hE:hR < hb) (hv:vs.length = 14) :
  Calls Tryz.prog 151 #[.pointer (some ⟨hR,0,none⟩),.pointer (some ⟨hb,0,none⟩)] W fun e w'=>FdEnd wb hR hb v l 7 vs W (rdF 7 l k) e w':=by
 have kg:7 < vs.length:=by omega
 have HS:=H hs
 have HX:=H hx
 have HV:=H hv
 have hsf:=sfl
 clear hs hx hv
 go_enter Tryz.func151,Tryz.ntmps151
 go_wp2_with fail
 refine (float_rs (U HS)).mono ?_
 rintro e w2 hN
 cases hg:bQ l k with
 | none =>
  obtain ⟨p,rfl⟩:=hN.2.2 hg
  have HG:=H hN.1
  have HT:Hid (rdF 7 l k = none):=by show rdF 7 l k = none; simp [rdF,hg]
  clear hN hg
  go_wp2_with fail
  exact ⟨rfl,fdEnd_fail (U HG) (U HT) _⟩
 | some x =>
  obtain ⟨u,n⟩:=x
  obtain ⟨rfl,hrn⟩:=hN.2.1 u n hg
  have HG:=H hN.1
  have ay:=H hrn
  have HN:=H (floatA_le hg).1
  have HT:Hid (rdF 7 l k = some (yk u,n)):=by show rdF 7 l k = _; simp [rdF,hg]
  clear hN hrn hg
  have pg:Bx w2 hb vs:=aO (U HX) ((U HG).block hb (by
   obtain ⟨y,hy⟩:=Option.isSome_iff_exists.1 ((U HX).t 0 (by omega)).1
   exact yL W _ hy) (by simp; omega))
  have c0:=K pg 7 (yI kg)
  have f0:=zd pg 7 kg
  clear pg
  go_wp2_with fail
  go_end0
  exact fdEnd_done (U HS) (U HX) (U HG) hE (U HT) (U HN) (U ay) kg
theorem readTag_any (wb:World) (hR hb:Nat) (v:Value) (l:List Int) (k:Nat) (vs:List Value) (W:World) (hs:RSr wb hR v l k W) (hx:Bx W hb vs) (hE:hR < hb) (hv:vs.length = 14) :
  Calls Tryz.prog 153 #[.pointer (some ⟨hR,0,none⟩),.pointer (some ⟨hb,0,none⟩)] W fun e w'=>FdEnd wb hR hb v l 8 vs W (rdF 8 l k) e w':=by
 have kg:8 < vs.length:=by omega
 have HS:=H hs
 have HX:=H hx
 have HV:=H hv
 
 clear hs hx hv
 go_enter Tryz.func153,Tryz.ntmps153
 go_wp2_with fail
 refine (text_rs (U HS)).mono ?_
 rintro e w2 hN
 cases hg:textA l k with
 | none =>
  obtain ⟨p,rfl⟩:=hN.2.2 hg
  have HG:=H hN.1
  have HT:Hid (rdF 8 l k = none):=by show rdF 8 l k = none; simp [rdF,hg]
  clear hN hg
  go_wp2_with fail
  exact ⟨rfl,fdEnd_fail (U HG) (U HT) _⟩
 | some x =>
  obtain ⟨u,n⟩:=x
  obtain ⟨rfl,hrn⟩:=hN.2.1 u n hg
  have HG:=H hN.1
  have ay:=H hrn
  have HN:=H (textA_le hg).1
  have HT:Hid (rdF 8 l k = some (yl u,n)):=by show rdF 8 l k = _; simp [rdF,hg]
  clear hN hrn hg
  have pg:Bx w2 hb vs:=aO (U HX) ((U HG).block hb (by
   obtain ⟨y,hy⟩:=Option.isSome_iff_exists.1 ((U HX).t 0 (by omega)).1
   exact yL W _ hy) (by simp; omega))
  have c0:=K pg 8 (yI kg)
  have f0:=zd pg 8 kg
  clear pg
  go_wp2_with fail
  go_end0
  exact fdEnd_done (U HS) (U HX) (U HG) hE (U HT) (U HN) (U ay) kg
theorem readField_any (wb w0:World) (cl hR hb o:Nat) (c:Fc) (v:Value) (l:List Int) (k:Nat) (vs:List Value) (W:World) (hs:RSr wb hR v l k W) (hx:Bx W hb vs) (hE:hR < hb) (hv:vs.length = 14) (Z:o = 7 ∨ o = 8 ∨ plcO o = true) (hf:FF W cl o c) (hF:hR < cl) :
  Calls Tryz.prog c.n2 (#[.pointer (some ⟨hR,0,none⟩),.pointer (some ⟨hb,0,none⟩)] ++ c.l) W fun e w'=>FdEnd wb hR hb v l o vs W (rdF o l k) e w':=by
 unfold FF at hf
 rcases Z with rfl | rfl | Z
 ·rw [if_pos rfl] at hf
  subst hf
  exact readPrice_any wb hR hb v l k vs W hs hx hE hv
 ·rw [if_neg (by decide),if_pos rfl] at hf
  subst hf
  exact readTag_any wb hR hb v l k vs W hs hx hE hv
 ·rw [if_neg (by intro e; subst e; simp [plcO] at Z),if_neg (by intro e; subst e; simp [plcO] at Z)] at hf
  obtain ⟨b,rfl,N,Y,h3⟩:=hf
  exact readNum_any wb hR hb b o v l k vs W hs hx hE Z hv (by omega) h3
theorem field_enter (cl o:Nat) (c:Fc) (W:World) (hf:FF W cl o c) (args:Array Value) (hj:World):(callFunc c.n2 args).run Tryz.prog hj = .ok (.enter c.n2 args) hj∧(callFunc c.n1 args).run Tryz.prog hj = .ok (.enter c.n1 args) hj:=by
 unfold FF at hf
 split at hf
 ·subst hf; exact ⟨by kernel_rfl,by kernel_rfl⟩
 ·split at hf
  ·subst hf; exact ⟨by kernel_rfl,by kernel_rfl⟩
  ·obtain ⟨b,rfl,_⟩:=hf; exact ⟨by kernel_rfl,by kernel_rfl⟩
def Ev.put (e:Ev) (o:Nat) (x:Value):Ev:=match o,x with
 | 1,.int _ z=>{ e with cmd:={ e.cmd with k:=z } }
 | 2,.int _ z=>{ e with cmd:={ e.cmd with s:=z } }
 | 3,.int _ z=>{ e with cmd:={ e.cmd with t:=z } }
 | 4,.int _ z=>{ e with cmd:={ e.cmd with l:=z } }
 | 5,.int _ z=>{ e with cmd:={ e.cmd with q:=z } }
 | 6,.int _ z=>{ e with cmd:={ e.cmd with i:=z } }
 | 7,.float _ p=>{ e with cmd:={ e.cmd with p:=p } }
 | 8,.string s=>{ e with cmd:={ e.cmd with g:=s } }
 | 9,.int _ z=>{ e with id:=z }
 | 10,.int _ z=>{ e with other:=z }
 | 11,.int _ z=>{ e with qty:=z }
 | 12,.int _ z=>{ e with price:=z }
 | 13,.int _ z=>{ e with reason:=z }
 | _,_=>e
def TyO (o:Nat) (x:Value):Prop:=if o = 7 then ∃ p,x = yk p else if o = 8 then ∃ s,x = yl s else ∃ z,x = I z
def EvO (o:Nat):Prop:=o = 7 ∨ o = 8 ∨ plcO o = true
theorem evs_put {o:Nat} {x:Value} (e:Ev) (Z:EvO o) (hx:TyO o x):e.vs.set o x = (e.put o x).vs:=by
 unfold EvO at Z
 unfold TyO at hx
 rcases (show o = 7 ∨ o = 8 ∨ o = 1 ∨ o = 2 ∨ o = 3 ∨ o = 4 ∨ o = 5 ∨ o = 6 ∨ o = 9 ∨ o = 10 ∨ o = 11 ∨ o = 12 ∨ o = 13 by simp [plcO] at Z; omega) with rfl | rfl | rfl | rfl | rfl | rfl | rfl | rfl | rfl | rfl | rfl | rfl | rfl
 all_goals
  obtain ⟨z,rfl⟩:=hx
  rfl
theorem rdF_ty {o k n:Nat} {l:List Int} {x:Value} (h:rdF o l k = some (x,n)):TyO o x:=by
 unfold rdF at h
 unfold TyO
 split at h
 ·rw [if_pos ‹_›]
  obtain ⟨⟨a,b⟩,N,Y⟩:=Option.map_eq_some_iff.1 h
  cases Y; exact ⟨_,rfl⟩
 ·rw [if_neg ‹_›]
  split at h
  ·rw [if_pos ‹_›]
   obtain ⟨⟨a,b⟩,N,Y⟩:=Option.map_eq_some_iff.1 h
   cases Y; exact ⟨_,rfl⟩
  ·rw [if_neg ‹_›]
   obtain ⟨⟨a,b⟩,N,Y⟩:=Option.map_eq_some_iff.1 h
   cases Y; exact ⟨_,rfl⟩
def rdEs:List Nat→Ev→List Int→Nat→Option (Ev × Nat)
 | [],e,_,k=>some (e,k)
 | o :: os,e,l,k=>match rdF o l k with | none=>none | some (x,n)=>rdEs os (e.put o x) l n
theorem rdEs_none {o k:Nat} {os:List Nat} {e:Ev} {l:List Int} (h:rdF o l k = none):rdEs (o :: os) e l k = none:=by rw [rdEs,h]
theorem rdEs_some {o k n:Nat} {os:List Nat} {e:Ev} {l:List Int} {x:Value} (h:rdF o l k = some (x,n)):rdEs (o :: os) e l k = rdEs os (e.put o x) l n:=by rw [rdEs,h]
def ev0 (k:Int):Ev:=⟨k,⟨shC k,0,0,0,0,0,0,⟨#[]⟩⟩,0,0,0,0,0⟩
def evA (l:List Int) (k:Nat):Option (Ev × Nat) :=
 if l.length ≤ k then none else if shF (l.getD k 0) = [] then none else rdEs (shF (l.getD k 0)) (ev0 (l.getD k 0)) l (k + 1)
theorem evA_end {l:List Int} {k:Nat} (h:l.length ≤ k):evA l k = none:=if_pos h
theorem evA_no {l:List Int} {k:Nat} (h:k < l.length) (N:shF (l.getD k 0) = []):evA l k = none:=by unfold evA; rw [if_neg (by omega),if_pos N]
theorem evA_yes {l:List Int} {k:Nat} (h:k < l.length) (N:shF (l.getD k 0) ≠ []):evA l k = rdEs (shF (l.getD k 0)) (ev0 (l.getD k 0)) l (k + 1):=by unfold evA; rw [if_neg (by omega),if_neg N]
theorem shF_evO (k:Int):∀ o ∈ shF k,EvO o:=by
 intro o Z
 unfold shF at Z
 repeat' split at Z
 all_goals
  simp only [List.mem_cons,List.not_mem_nil,or_false] at Z
  try (rcases Z with rfl | rfl | rfl | rfl | rfl | rfl | rfl | rfl | rfl)
  try (rcases Z with rfl | rfl | rfl | rfl | rfl | rfl | rfl)
  try (rcases Z with rfl | rfl | rfl | rfl)
  try (rcases Z with rfl | rfl)
  try subst Z
  all_goals first | exact .inl rfl | exact .inr (.inl rfl) | exact .inr (.inr rfl) | exact Z.elim
theorem set14 (W:World) (b:Nat) (v0 v1 v2 v3 v4 v5 v6 v7 v8 v9 v10 v11 v12 v13:Value):((((((((((((((W.setCell ⟨b,0,none⟩ v0).setCell ⟨b,1,none⟩ v1).setCell ⟨b,2,none⟩ v2).setCell ⟨b,3,none⟩ v3).setCell ⟨b,4,none⟩ v4).setCell ⟨b,5,none⟩ v5).setCell ⟨b,6,none⟩ v6).setCell ⟨b,7,none⟩ v7).setCell ⟨b,8,none⟩ v8).setCell ⟨b,9,none⟩ v9).setCell ⟨b,10,none⟩ v10).setCell ⟨b,11,none⟩ v11).setCell ⟨b,12,none⟩ v12).setCell ⟨b,13,none⟩ v13) = W.setCells b 0 [v0,v1,v2,v3,v4,v5,v6,v7,v8,v9,v10,v11,v12,v13]:=by
 simp only [World.setCells]
theorem rdr_setCells {hR b:Nat} {W:World} {v:Value} {n:Int} (us:List Value) (h:Rdr hR W v n) (E:hR ≠ b):Rdr hR (W.setCells b 0 us) v n:=by
 have hk:=bA b hR E us 0 W
 exact ⟨(yR (a:=⟨hR,0,none⟩) hk).trans h.1,(yR (a:=⟨hR,1,none⟩) hk).trans h.2,(World.frozen?_of_block (a:=⟨hR,1,none⟩) hk).trans h.3⟩
theorem gr_setCells {hR b:Nat} {w W:World} (us:List Value) (h:w.grownBy W (some hR)) (E:w.heap.size ≤ b):w.grownBy (W.setCells b 0 us) (some hR):=by
 have N:=zi b yb us 0 W (Below.refl b W)
 exact ⟨N.os.trans h.os,N.tape.trans h.tape,N.output.trans h.output,yO h.size N.size,fun i hi R=>by rw [bA b i (by omega) us 0 W]; exact h.block i hi R⟩
def EvEnd (hR:Nat) (v:Value) (w:World) (r:Option (Ev × Nat)) (e:Ending) (w':World):Prop :=
 w.grownBy w' (some hR)∧(∀ x n,r = some (x,n)→e = .returned (evV x)∧Rdr hR w' v n)∧(r = none→∃ p,e = .panicked (bI 3 p))
theorem evEnd_fail {hR:Nat} {v:Value} {w w':World} {r:Option (Ev × Nat)} (hg:w.grownBy w' (some hR)) (hr:r = none) (p:Int):EvEnd hR v w r (.panicked (bI 3 p)) w' :=
 ⟨hg,(fun _ _ h=>by rw [hr] at h; cases h),fun _=>⟨p,rfl⟩⟩
theorem evEnd_done {hR:Nat} {v:Value} {w w':World} {r:Option (Ev × Nat)} {x:Ev} {n:Nat} (hg:w.grownBy w' (some hR)) (hr:r = some (x,n)) (h:Rdr hR w' v n):EvEnd hR v w r (.returned (evV x)) w' :=
 ⟨hg,(fun a b h'=>by rw [hr] at h'; cases h'; exact ⟨rfl,h⟩),(fun h'=>by rw [hr] at h'; cases h')⟩
theorem ffs_get {W:World} {B:Nat}:∀ {os:List Nat} {fs:List Fc},FFs W B os fs→os.length = fs.length∧∀ (i:Nat) (c:Fc),fs[i]? = some c→∃ o:Nat,os[i]? = some o∧FF W B o c
 | [],[],_=>⟨rfl,fun i c h=>by simp at h⟩
 | o :: os,c :: A,h=>by
  have ih:=ffs_get h.2
  refine ⟨by simp [ih.1],fun i d hd=>?_⟩
  cases i with
  | zero=>simp at hd; subst hd; exact ⟨o,rfl,h.1⟩
  | succ i=>simpa using ih.2 i d (by simpa using hd)
 | [],c :: A,h=>h.elim
 | o :: os,[],h=>h.elim
def bl (s:ByteArray):List Int:=s.data.toList.map fun b=>(b.toNat:Int)
theorem bl_len (s:ByteArray):(bl s).length = s.size:=by simp [bl]
theorem bl_cells (s:ByteArray):Lib.strCells s = (bl s).map (Value.int .u8):=by simp [Lib.strCells,bl]
theorem run_room_text {P:Program} (w:World) (t u ty e tb:TypeId) (i:TypeInfo) (ht:P.underlying t = some (.slice e)) (hu:P.underlying u = some .string) (hi:P.info? e = some i) (xK:i.size = 1)
  (g qU pj:Nat) (xF:Array Value) (hg:w.heap[g]? = some (.cells xF tb (0,0))) (s:ByteArray) (pe:qU + s.size ≤ pj) (ke:qU + s.size ≤ xF.size) :
  (Builtin.append_ #[t,u] ty #[.slice (some (Q g 0)) qU pj,yl s]).run P w =
   .ok (.slice (some (Q g 0)) (qU + s.size) pj) (w.setRow g (xF.toList.take qU ++ Lib.strCells s ++ xF.toList.drop (qU + s.size)).toArray):=by
 have hf:=Lib.run_firstCells_string (P:=P) w 1 s
 have ji:=run_storeCells_at P g qU tb (Lib.strCells s) 0 xF w hg (by simpa [Lib.strCells_length] using ke) (Lib.strCells_oneCell s)
 simp only [Nat.add_zero,Lib.strCells_length] at ji
 simp [Builtin.append_,run_underlying ht,run_underlying hu,sizeOf,typeInfo,hi,xK,Builtin.lenOf,pe,hf,Addr.add_lit,ji]
theorem run_append_text {P:Program} (w:World) (B:Nat) (t u ty e:TypeId) (i:TypeInfo) (ht:P.underlying t = some (.slice e)) (hu:P.underlying u = some .string) (hi:P.info? e = some i)
  (hz:i.zero = some (.int .u8 0)) (jw:i.size = 1) (hby:i.bytes = 1) (v:Value) (l:List Int) (xS:OwnT B w v l) (s:ByteArray) (E:l.length + s.size ≤ 1073741824) (hB:B ≤ w.heap.size) :
  ∃ v' w',(Builtin.append_ #[t,u] ty #[v,yl s]).run P w = .ok v' w'∧OwnT B w' v' (l ++ bl s)∧w.grownBy w' v.ownBlock:=by
 obtain ⟨g,cap,xF,tb,rfl,hbg,hg,qb,kp,hcm,hl,kQ⟩:=xS
 have xA:(l ++ bl s).length = l.length + s.size:=by rw [yQ,bl_len]
 by_cases pe:l.length + s.size ≤ cap
 ·have hr:=run_room_text (P:=P) w t u ty e tb i ht hu hi jw g l.length cap xF hg s pe (by omega)
  refine ⟨_,_,hr,⟨g,cap,_,tb,by rw [xA],hbg,setRow_heap w g xF _ tb _ hg,by omega,?_,hcm,by omega,?_⟩,⟨rfl,rfl,rfl,by simp,fun k _ hk=>setRow_other w g k _ (fun e=>hk (by simp [Value.ownBlock,e]))⟩⟩
  ·simp only [List.size_toArray,yQ,List.length_take,List.length_drop,Array.length_toList,Lib.strCells_length]
   omega
  ·rw [kQ,bl_cells,← List.map_append]
   exact List.take_left' (by simp)
 ·have hr:=Lib.run_append_grow_string (P:=P) w t u ty e i (.int .u8 0) ht hu hi hz (Q g 0) l.length cap (l.map (Value.int .u8)) (by rw [jw]; simp)
   (fun j x V=>by
    have hj':j < l.length:=by
     rcases Nat.lt_or_ge j l.length with h | h
     ·exact h
     ·rw [List.getElem?_eq_none (by simpa using h)] at V; cases V
    have:=cell_head hg kQ hj'
    rw [List.getElem?_map,yI hj'] at V
    have e:((Q g 0):Addr).add j = (Q g j):=by unfold Addr.add; split <;> simp_all
    rw [e,this]
    simpa [hj'] using V) s (by omega) (by omega) (by rw [hby]; exact growslice_fits (by omega) (by omega))
  have hge:=grownCap_ge w (l.length + s.size) cap e
  have hcm':grownCap w (l.length + s.size) cap e ≤ maxLen:=grownCap_le_maxLen w (l.length + s.size) cap e (by unfold maxLen; omega)
  refine ⟨_,_,hr,⟨w.heap.size,_,_,e,by rw [xA],hB,heap_alloc_new w.drew _,by omega,?_,hcm',by omega,?_⟩,⟨rfl,rfl,rfl,by simp,fun k hk _=>Below.heap_alloc w.drew _ k hk⟩⟩
  ·have uI:(Value.int IntKind.u8 0).cells.size = 1:=rfl
   simp only [Array.size_append,List.size_toArray,size_zeroCells,uI,Lib.strCells_length,List.length_map]
   omega
  ·simp only [Array.toList_append,bl_cells,← List.map_append]
   exact List.take_left' (by simp)
theorem wpList_append_text {P:Program} (w:World) {ops:Array Oper} {rest:List Oper} {o:Oper} {a:Act} {ya:Exit→Act→World→Prop} (hgd:o.guard = none) (sl x:Operand) (t u:TypeId)
  (Z:o.op = .call { callee:=.builtin .append,args:=#[sl,x],argTypes:=#[t,u] })
  (B:Nat) (e:TypeId) (i:TypeInfo) (ht:P.underlying t = some (.slice e)) (hu:P.underlying u = some .string) (hi:P.info? e = some i)
  (hz:i.zero = some (.int .u8 0)) (jw:i.size = 1) (hby:i.bytes = 1) (v:Value) (l:List Int) (hs:a.eval sl = v) (xS:OwnT B w v l) (s:ByteArray) (hx:a.eval x = yl s)
  (E:l.length + s.size ≤ 1073741824) (hB:B ≤ w.heap.size)
  (h:∀ v' w',OwnT B w' v' (l ++ bl s)→w.grownBy w' v.ownBlock→wpList P ops ya rest (a.put o.dst v') w'):wpList P ops ya (o :: rest) a w:=by
 refine wpList_plain hgd fun zb hK=>?_
 obtain ⟨v',w',hr,Y,h3⟩:=run_append_text (P:=P) w B t u o.type e i ht hu hi hz jw hby v l xS s E hB
 unfold Oper.wp execOp
 simp only [Z,resolve,invoke,builtin,Sem.run_bind,Sem.run_pure,Result.andThen_ok,List.map_toArray,List.map_cons,List.map_nil,hs,hx,hr]
 exact hK _ _ (h v' w' Y h3)
def cutB (s:ByteArray):ByteArray:=if 12 < s.size then s.extract 0 13 else s
theorem ej (s:ByteArray):(cutB s).size ≤ 13:=by
 unfold cutB; split
 ·simp; omega
 ·omega
theorem cutB_one (s:ByteArray) (h:s.size = 13):cutB s = s:=by
 unfold cutB; rw [if_pos (by omega),← h]; exact ByteArray.extract_zero_size
theorem implCut_any (s:ByteArray) (w:World) (hs:s.size ≤ maxLen) :
  Calls Tryz.prog 206 #[yl s] w fun e w'=>e = .returned (yl (cutB s))∧w' = w:=by
 unfold maxLen at hs
 by_cases h:12 < s.size
 ·have HF:=H (show cutB s = s.extract 0 13 from if_pos h)
  have h':(12:Int) < s.size:=by omega
  go_enter Tryz.func206,Tryz.ntmps206
  go_wp2
  go_ret
  exact ⟨by rw [U HF]; rfl,rfl⟩
 ·have HF:=H (show cutB s = s from if_neg h)
  have h':(s.size:Int) ≤ 12:=by omega
  go_enter Tryz.func206,Tryz.ntmps206
  go_wp2
  go_ret
  exact ⟨by rw [U HF]; rfl,rfl⟩
end Go.Proofs.YtnphbkgfjanmgaaGreatDoor
namespace Go.Proofs.YtnphbkgfjanmgaaGreatDoor
open Go

def zz (n:Int):Nat:=if n < 0 then (-2 * n - 1).toNat else (2 * n).toNat
def putU (u:Nat):List Int:=if u < 128 then [(u:Int)] else ((u:Int) % 128 + 128) :: putU (u / 128)
termination_by u
decreasing_by omega
theorem ec {u:Nat} (h:u < 128):putU u = [(u:Int)]:=by rw [putU,if_pos h]
theorem eJ {u:Nat} (h:¬ u < 128):putU u = ((u:Int) % 128 + 128) :: putU (u / 128):=by rw [putU,if_neg h]
theorem putU_pos (u:Nat):1 ≤ (putU u).length:=by
 rw [putU]; split <;> simp
theorem putU_len:∀ (k u:Nat),u < 128 ^ (k + 1)→(putU u).length ≤ k + 1
 | 0,u,h=>by rw [ec (by simpa using h)]; simp
 | k + 1,u,h=>by
  by_cases hu:u < 128
  ·rw [ec hu]; simp
  ·rw [eJ hu]
   have:=putU_len k (u / 128) (by rw [Nat.div_lt_iff_lt_mul (by omega)]; rw [Nat.pow_succ] at h; exact h)
   simp only [List.length_cons]; omega
theorem eK (u:Nat) (h:u < 18446744073709551616):(putU u).length ≤ 10 :=
 putU_len 9 u (yK h (by decide))
def Lt64 (x:Nat):Prop:=x < 18446744073709551616
theorem putU_at {u0 x:Nat} {done:List Int} (hu:(putU u0).length ≤ 10) (h:done ++ putU x = putU u0):done.length ≤ 9:=by
 have:=congrArg List.length h
 have N:=putU_pos x
 rw [yQ] at this
 omega
theorem putU_step {u0 x:Nat} {done:List Int} (hx:¬ x < 128) (h:done ++ putU x = putU u0):(done ++ [(x:Int) % 128 + 128]) ++ putU (x / 128) = putU u0:=by
 rw [← h,eJ hx,List.append_assoc]; rfl
theorem putU_end {u0 x:Nat} {done:List Int} (hx:x < 128) (h:done ++ putU x = putU u0):done ++ [(x:Int)] = putU u0:=by
 rw [← h,ec hx]
theorem zz_lt (n:Int) (h0:-9223372036854775808 ≤ n) (N:n ≤ 9223372036854775807):zz n < 18446744073709551616:=by
 unfold zz; split <;> omega
theorem xor_ones (x:Nat) (h:x < 18446744073709551616):x ^^^ 18446744073709551615 = 18446744073709551615 - x:=by
 have e:=congrArg BitVec.toNat (BitVec.xor_allOnes (x:=BitVec.ofNat 64 x))
 rw [BitVec.toNat_xor,BitVec.toNat_not,BitVec.toNat_allOnes,BitVec.toNat_ofNat] at e
 have hm:x % 2 ^ 64 = x:=Nat.mod_eq_of_lt h
 rw [hm] at e
 exact e
theorem fold_neg (n:Int) (h0:-9223372036854775808 ≤ n) (N:n < 0) :
  bits .xor .u64 (IntKind.u64.wrap (IntKind.u64.wrap n * 2)) (IntKind.u64.wrap (n / 9223372036854775808)) = (zz n:Int):=by
 simp only [IntKind.wrap_u64]
 have e1:n % 18446744073709551616 * 2 % 18446744073709551616 = 2 * n + 18446744073709551616:=by omega
 have e2:n / 9223372036854775808 % 18446744073709551616 = 18446744073709551615:=by omega
 rw [e1,e2,u64_xor _ _ (by omega) (by omega) (by omega) (by omega)]
 have e3:(18446744073709551615:Int).toNat = 18446744073709551615:=rfl
 rw [e3,xor_ones _ (by omega)]
 unfold zz; rw [if_pos N]; omega
theorem fold_pos (n:Int) (h0:0 ≤ n) (N:n ≤ 9223372036854775807) :
  bits .xor .u64 (IntKind.u64.wrap (IntKind.u64.wrap n * 2)) (IntKind.u64.wrap (n / 9223372036854775808)) = (zz n:Int):=by
 simp only [IntKind.wrap_u64]
 have e1:n % 18446744073709551616 * 2 % 18446744073709551616 = 2 * n:=by omega
 have e2:n / 9223372036854775808 % 18446744073709551616 = 0:=by omega
 rw [e1,e2,u64_xor _ _ (by omega) (by omega) (by omega) (by omega)]
 have e3:(0:Int).toNat = 0:=rfl
 rw [e3,Nat.xor_zero]
 unfold zz; rw [if_neg (by omega)]
theorem fold_eq (n:Int) (h0:-9223372036854775808 ≤ n) (N:n ≤ 9223372036854775807) :
  bits .xor .u64 (IntKind.u64.wrap (IntKind.u64.wrap n * 2)) (IntKind.u64.wrap (n / 9223372036854775808)) = (zz n:Int):=by
 by_cases h:n < 0
 ·exact fold_neg n h0 h
 ·exact fold_pos n (by omega) N
theorem and127 (x:Nat) (h:x < 18446744073709551616):bits .and .u64 (x:Int) 127 = (x:Int) % 128:=by
 have:=u64_and_nat x 127 h (by omega)
 rw [show ((127:Nat):Int) = 127 from rfl] at this
 rw [this,show x &&& 127 = x % 128 from Nat.and_two_pow_sub_one_eq_mod x 7]
 omega
end Go.Proofs.YtnphbkgfjanmgaaGreatDoor
