/-
  A script of commands drawn out of the source, and out of a code: proved by walking the functions.
-/
import Derived.Test.YtdliebbfcmdmaaaGreatMj33
set_option linter.unusedVariables false
set_option maxHeartbeats 6400000
set_option maxRecDepth 100000
namespace Go.Proofs.YtdliebbfcmdmaaaGreat
open Go.RowKit
theorem Tryz.infoCmdD:(Tryz.prog.info? 27).map (fun i=>(i.zero,i.size,i.bytes)) = some (some (.agg (yw 0 0 0 0 0 0 0 ⟨#[]⟩).toArray),8,72):=by kernel_rfl
theorem dK (w:World) (cs:List Value) (t:TypeId) (j:Nat) (u:Value) (h:cs[j]? = some u):(w.alloc (Obj.cells cs.toArray t)).cell? (((yq w 0):Addr).add j) = some u:=by
 rw [Addr.add_mid,cell_of_row _ w.heap.size (0 + j) cs.toArray t (0,0) (heap_alloc_new w _)]
 simpa using h
theorem gr_newD {w wr w2:World} {B:Nat} {row:Option Nat} (h:w.grownBy wr (some B)) (hg:wr.grownBy w2 row) (hr:∀ k,row = some k→w.heap.size ≤ k):w.grownBy w2 (some B) :=
 ⟨hg.os.trans h.os,hg.tape.trans h.tape,hg.output.trans h.output,yN h.size hg.size,
  fun i hi xB=>(hg.block i (yJ hi h.size) (fun e=>by have:=hr i e.symm; omega)).trans (h.block i hi xB)⟩
theorem db {W:World} {B e z n:Nat} {v:Value} {xs:List Value} (h:W.ownsRow B e z v n xs):∃ a A,v = .slice a n A:=by
 rcases h.2 with ⟨Q,N⟩ | ⟨g,A,xr,Q,_⟩
 ·exact ⟨none,0,by rw [Q,N]⟩
 ·exact ⟨_,_,Q⟩
theorem own_baseD {W:World} {B B' e z n:Nat} {v:Value} {xs:List Value} (h:W.ownsRow B e z v n xs) (hB:B' ≤ B):W.ownsRow B' e z v n xs:=by
 refine ⟨h.1,?_⟩
 rcases h.2 with h | ⟨g,A,xr,Q,N,h3⟩
 ·exact .inl h
 ·exact .inr ⟨g,A,xr,Q,yN hB N,h3⟩
theorem prW_eq {y z:Nat} (h:PEq y z) (hz:PrW z):PrW y:=by
 rcases h with rfl | ⟨Q,-⟩
 ·exact hz
 ·exact prW_nan Q
theorem flt_prW (k:Nat):PrW (fltL.getD k 0):=by
 by_cases h:k < 15
 ·rcases (show k = 0 ∨ k = 1 ∨ k = 2 ∨ k = 3 ∨ k = 4 ∨ k = 5 ∨ k = 6 ∨ k = 7 ∨ k = 8 ∨ k = 9 ∨ k = 10 ∨ k = 11 ∨ k = 12 ∨ k = 13 ∨ k = 14 by omega) with rfl | rfl | rfl | rfl | rfl | rfl | rfl | rfl | rfl | rfl | rfl | rfl | rfl | rfl | rfl
  all_goals exact prW_of (by kernel_rfl)
 ·rw [List.getD_eq_getElem?_getD,List.getElem?_eq_none (by show 15 ≤ k; omega)]
  exact prW_of (by kernel_rfl)
theorem prl_prW (k:Nat):PrW (prL.getD k 0):=by
 by_cases h:k < 9
 ·rcases (show k = 0 ∨ k = 1 ∨ k = 2 ∨ k = 3 ∨ k = 4 ∨ k = 5 ∨ k = 6 ∨ k = 7 ∨ k = 8 by omega) with rfl | rfl | rfl | rfl | rfl | rfl | rfl | rfl | rfl
  all_goals exact prW_of (by kernel_rfl)
 ·rw [List.getD_eq_getElem?_getD,List.getElem?_eq_none (by show 9 ≤ k; omega)]
  exact prW_of (by kernel_rfl)
theorem getD_len {ts:List ByteArray} (h:∀ s ∈ ts,s.size ≤ 20) (k:Nat):(ts.getD k ⟨#[]⟩).size ≤ 20:=by
 rw [List.getD_eq_getElem?_getD]
 cases e:ts[k]? with
 | none=>exact Nat.zero_le _
 | some s=>exact h s (yO e)
theorem drOk_eq {c d:Cm} (h:CmEq c d) (hd:DrOk d):DrOk c:=⟨by rw [h.g]; exact hd.1,prW_eq h.p hd.2⟩
theorem cmdF_ok (l:List Int) (ids:Int) (s:Sr):DrOk (cmdF l ids s).1:=by
 have z:PrW 0:=prW_of (by kernel_rfl)
 rw [cmdF]
 split
 ·exact ⟨getD_len tags8_len _,flt_prW _⟩
 ·split
  ·exact ⟨Nat.zero_le _,z⟩
  ·split
   ·exact ⟨Nat.zero_le _,z⟩
   ·split
    ·exact ⟨Nat.zero_le _,z⟩
    ·refine ⟨getD_len tag3_len _,?_⟩
     show PrW (cpF _ _ _).1
     rw [cpF]
     split
     ·exact z
     ·exact prl_prW _
theorem szF_bd (l:List Int):1 ≤ szF l 24∧szF l 24 ≤ 24:=by
 rw [szF]; split <;> omega
theorem srX_keep {B:Nat} {w w':World} {v:Value} {l:List Int} {s:Sr} {G:Option Nat} (h:SrX B w v l s) (hg:w.grownBy w' G) (hB:some B ≠ G) (hv:l ≠ []→v.ownBlock ≠ G):SrX B w' v l s:=by
 have L:=hg.block B (bL h.src) hB
 have e:∀ i,w'.cell? ⟨B,i,none⟩ = w.cell? ⟨B,i,none⟩:=fun i=>yQ (a:=⟨B,i,none⟩) L
 exact ⟨src_keep h.src hg hB hv,h.a0,h.s0,h.s1,(e 1).trans h.c1,(e 2).trans h.c2⟩
theorem source_ex (v:Value) (l:List Int) (w:World) (h:Rd w v l) (L:Bts l) :
  Calls Tryz.prog 8 #[v] w fun e w'=>e = .returned (.pointer (some ⟨w.heap.size,0,none⟩))∧SrX w.heap.size w' v l ⟨0,(l.length:Int) % 1000⟩∧Below w.heap.size w w':=by
 have HR:=hide h
 have HB:=hide L
 have HV:=hide (fun xB=>rd_new h xB)
 obtain ⟨a,A,rfl,hl,_⟩:=h
 clear L
 go_enter Tryz.func8,Tryz.ntmps8
 go_wp2_with fail
 go_ret
 refine ⟨rfl,⟨⟨rd_grown (U HR) (aY w _ _) (U HV),U HV,U HB,cell_of_row _ _ _ _ _ (0,0) (heap_alloc_new w _),⟨0,(l.length:Int) % 1000,by omega,by show (0:Int) ≤ 0; omega,by omega,by omega,cell_of_row _ _ _ _ _ (0,0) (heap_alloc_new w _),cell_of_row _ _ _ _ _ (0,0) (heap_alloc_new w _)⟩,?_,?_⟩,by show (0:Int) ≤ 0; omega,by show 0 ≤ (l.length:Int) % 1000; omega,by show (l.length:Int) % 1000 < 2147483648; omega,cell_of_row _ _ _ _ _ (0,0) (heap_alloc_new w _),cell_of_row _ _ _ _ _ (0,0) (heap_alloc_new w _)⟩,(Below.refl _ w).alloc (Nat.le_refl _) _⟩
 all_goals
  unfold World.frozen?
  rw [heap_alloc_new]
  simp
def mirP (p:Nat):Nat:=(FloatKind.f64.format.sub 4641240890982006784 p).getD 0
def ge200 (p:Nat):Bool:=(FloatKind.f64.format.order p 4641240890982006784 == some Ordering.gt) || (FloatKind.f64.format.order p 4641240890982006784 == some Ordering.eq)
def mirB (p:Nat):Bool:=!tkOk p || ge200 p || ((FloatKind.f64.format.sub 4641240890982006784 p == some (mirP p)) && tkOk (mirP p) && decide (tk (mirP p) = 800 - tk p) && decide (mirP p < 18446744073709551616))
theorem mir_all:(0 :: (fltL ++ prL)).all mirB = true:=by kernel_rfl
theorem mir_price {p:Nat} (hp:p ∈ 0 :: (fltL ++ prL)) (hk:tkOk p = true) (hg:ge200 p = false) :
  FloatKind.f64.format.sub 4641240890982006784 p = some (mirP p)∧tkOk (mirP p) = true∧tk (mirP p) = 800 - tk p∧mirP p < 18446744073709551616:=by
 have h:=List.all_eq_true.1 mir_all p hp
 rw [mirB,hk,hg] at h
 simp only [Bool.not_true,Bool.false_or,xe,beq_iff_eq,xh] at h
 exact ⟨h.1.1.1,h.1.1.2,h.1.2,h.2⟩
theorem flt_in (k:Nat):fltL.getD k 0 ∈ 0 :: (fltL ++ prL):=by
 rw [List.getD_eq_getElem?_getD]
 cases e:fltL[k]? with
 | none=>simp
 | some x=>exact List.mem_cons_of_mem _ (List.mem_append_left _ (yO e))
theorem prl_in (k:Nat):prL.getD k 0 ∈ 0 :: (fltL ++ prL):=by
 rw [List.getD_eq_getElem?_getD]
 cases e:prL[k]? with
 | none=>simp
 | some x=>exact List.mem_cons_of_mem _ (List.mem_append_right _ (yO e))
theorem cmdF_price (l:List Int) (ids:Int) (s:Sr):(cmdF l ids s).1.p ∈ 0 :: (fltL ++ prL):=by
 rw [cmdF]
 split
 ·exact flt_in _
 ·split
  ·exact List.mem_cons_self ..
  ·split
   ·exact List.mem_cons_self ..
   ·split
    ·exact List.mem_cons_self ..
    ·show (cpF _ _ _).1 ∈ _
     rw [cpF]
     split
     ·exact List.mem_cons_self ..
     ·exact prl_in _
def eq995 (p:Nat):Bool:=FloatKind.f64.format.order p 4636702106982547456 == some Ordering.eq
structure CleanC (c:Cm):Prop where
 sd:0 ≤ c.s∧c.s ≤ 3
 pr:c.k = 1→c.t ≠ 2→tkOk c.p = true∧ge200 c.p = false∧c.p ∈ 0 :: (fltL ++ prL)
 ok:DrOk c
def aH (c:Cm):Cm:=if c.k = 1 then ⟨c.k,3 - c.s,c.t,c.l,c.q,c.i,if c.t = 2 then c.p else mirP c.p,c.g⟩ else c
theorem turn_mir {c:Cm} (h:CleanC c):CmM c (aH c):=by
 unfold aH
 by_cases hk:c.k = 1
 ·rw [if_pos hk]
  refine ⟨rfl,rfl,rfl,rfl,rfl,rfl,fun _=>rfl,fun _ ht=>?_,fun _ ht=>?_,fun hn=>absurd hk hn⟩
  ·exact if_pos ht
  ·obtain ⟨Q,N,h3⟩:=h.pr hk ht
   obtain ⟨-,m2,m3,-⟩:=mir_price h3 Q N
   show _∧tkOk (if c.t = 2 then c.p else mirP c.p) = true∧tk (if c.t = 2 then c.p else mirP c.p) = 800 - tk c.p
   rw [if_neg ht]
   exact ⟨Q,m2,m3⟩
 ·rw [if_neg hk]
  exact ⟨rfl,rfl,rfl,rfl,rfl,rfl,fun h=>absurd h hk,fun h=>absurd h hk,fun h=>absurd h hk,fun _=>rfl⟩
def fokB (p:Nat):Bool:=!eq995 p || tkOk p
theorem fok_all:(0 :: (fltL ++ prL)).all fokB = true:=by kernel_rfl
theorem eq995_nan {x:Nat} (h:nanB x = true):eq995 x = false:=by
 have Q:=(nan_iff x).1 h
 have e:FloatKind.f64.format.order x 4636702106982547456 = none:=by
  show (Ieee.double.read x).order (Ieee.double.read 4636702106982547456) = none
  cases hx:Ieee.double.read x with
  | nan s f=>rfl
  | infinity s=>rw [hx] at Q; simp [Ieee.Datum.isNaN] at Q
  | number s m i=>rw [hx] at Q; simp [Ieee.Datum.isNaN] at Q
 rw [eq995,e]; rfl
theorem tkOk_nanR {x:Nat} (h:nanB x = true):tkOk x = false:=by
 cases hk:tkOk x
 ·rfl
 exfalso
 have Q:=(nan_iff x).1 h
 have e:FloatKind.f64.format.order x 0 = none:=by
  show (Ieee.double.read x).order (Ieee.double.read 0) = none
  cases hx:Ieee.double.read x with
  | nan s f=>rfl
  | infinity s=>rw [hx] at Q; simp [Ieee.Datum.isNaN] at Q
  | number s m i=>rw [hx] at Q; simp [Ieee.Datum.isNaN] at Q
 rw [tkOk,e] at hk
 simp at hk
theorem cmdF_side (l:List Int) (ids:Int) (s:Sr):0 ≤ (cmdF l ids s).1.s∧(cmdF l ids s).1.s ≤ 3:=by
 rw [cmdF]
 split
 ·have:=nx_bd (l:=l) (n:=4) (s:=(nxF l 6 (nxF l 12 s).2).2) (by omega)
  show 0 ≤ (nxF l 4 (nxF l 6 (nxF l 12 s).2).2).1∧(nxF l 4 (nxF l 6 (nxF l 12 s).2).2).1 ≤ 3
  omega
 ·split
  ·exact ⟨Int.le_refl _,by show (0:Int) ≤ 3; decide⟩
  ·split
   ·exact ⟨Int.le_refl _,by show (0:Int) ≤ 3; decide⟩
   ·split
    ·exact ⟨Int.le_refl _,by show (0:Int) ≤ 3; decide⟩
    ·have:=nx_bd (l:=l) (n:=2) (s:=(nxF l 12 s).2) (by omega)
     show 0 ≤ 1 + (nxF l 2 (nxF l 12 s).2).1∧1 + (nxF l 2 (nxF l 12 s).2).1 ≤ 3
     omega
theorem clean_of {l:List Int} {ids:Int} {s:Sr} {c:Cm} (h:CmEq c (cmdF l ids s).1) (hg:ge200 c.p = false) (hc:refR 1 [] c = 0 ∨ c.k = 2 ∨ (c.k = 1∧c.t = 4∧eq995 c.p = true)):CleanC c:=by
 have hd:=cmdF_ok l ids s
 have hs:=cmdF_side l ids s
 have hp:=cmdF_price l ids s
 refine ⟨by rw [h.s]; exact hs,fun hk ht=>?_,drOk_eq h hd⟩
 have vH:tkOk c.p = true:=by
  rcases hc with h0 | N | ⟨-,-,h9⟩
  ·have hn:=ref_new h0 hk
   rw [newR] at hn
   have hpr:prcB c = true:=by
    cases L:prcB c
    ·exfalso
     rw [L] at hn
     revert hn
     repeat' split
     all_goals first | (intro h; cases h) | simp_all
    ·rfl
   rw [prcB,if_neg ht] at hpr
   exact hpr
  ·omega
  ·rcases h.p with e | ⟨Q,-⟩
   ·have:=List.all_eq_true.1 fok_all _ (e ▸ hp)
    rw [fokB,h9] at this
    simpa using this
   ·rw [eq995_nan Q] at h9; cases h9
 refine ⟨vH,hg,?_⟩
 rcases h.p with e | ⟨Q,-⟩
 ·rw [e]; exact hp
 ·rw [tkOk_nanR Q] at vH; cases vH
theorem dd (n a b:Int) (w:World) :
  Calls Tryz.prog 23 #[H n,H a,H b] w fun e w'=>e = .returned (.bool (betB n a b))∧w' = w:=by
 go_enter Tryz.func23,Tryz.ntmps23
 go_wp2
 all_goals go_ret
 all_goals exact ⟨zy (by rw [Bool.eq_iff_iff]; simp [betB]; omega),rfl⟩
theorem l03Tag_any (s:ByteArray) (w:World) (hs:s.size ≤ maxLen) :
  Calls Tryz.prog 44 #[yk s] w fun e w'=>e = .returned (.bool (tagB s))∧w' = w:=by
 unfold maxLen at hs
 by_cases hl:s.size ≤ 12
 ·have hl':¬ ((12:Int) < s.size):=by omega
  go_enter Tryz.func44,Tryz.ntmps44
  go_wp2_with fail
  go_loop [3] (fun i=>∃ k:Nat,k ≤ s.size∧i = H k∧Hid (s.data.toList.all tagC = (s.data.toList.drop k).all tagC)) (fun i=>s.size - (intOf i).toNat)
  case atStart=>exact ⟨0,Nat.zero_le _,rfl,by simp [Hid]⟩
  case round =>
   obtain ⟨k,hk,rfl,D⟩:=hrel
   by_cases xK:k < s.size
   ·have uv:(k:Int) < s.size:=by omega
    have hdr:=drop_cons s k xK
    have hw:betB (s[k].toNat:Int) 32 126 = tagC s[k]:=rfl
    cases ht:tagC s[k]
    ·have HT:Hid (s.data.toList.all tagC = false):=by
      have:=U D
      rw [hdr,List.all_cons,ht,Bool.false_and] at this
      exact this
     rw [ht] at hw
     have oQ:(s[k].toNat:Int) < 32 ∨ (32 ≤ (s[k].toNat:Int)∧(126:Int) < s[k].toNat):=by
      simp [betB] at hw; omega
     clear hdr ht hw
     rcases oQ with h32 | ⟨h32,h126⟩
     ·have hd:decide ((s[k].toNat:Int) < 32) = true:=by simpa using h32
      go_wp2_with fail
      go_ret
      exact ⟨zy (tag_no s (U HT)).symm,rfl⟩
     ·have hd:decide ((s[k].toNat:Int) < 32) = false:=by simpa using h32
      go_wp2_with fail
      go_ret
      exact ⟨zy (tag_no s (U HT)).symm,rfl⟩
    ·have HN:Hid (s.data.toList.all tagC = (s.data.toList.drop (k + 1)).all tagC):=by
      have:=U D
      rw [hdr,List.all_cons,ht,Bool.true_and] at this
      exact this
     rw [ht] at hw
     have oQ:32 ≤ (s[k].toNat:Int)∧(s[k].toNat:Int) ≤ 126:=by
      simp [betB] at hw; omega
     obtain ⟨h32,h126⟩:=oQ
     have hd:decide ((s[k].toNat:Int) < 32) = false:=by simpa using h32
     have hd2:¬ ((126:Int) < s[k].toNat):=by omega
     clear hdr ht hw
     go_wp2_with fail
     go_round
     case rel=>exact ⟨k + 1,by omega,by go_num,U HN⟩
     case measure=>simp [intOf]; omega
   ·go_wp2_with fail
    go_ret
    have h:=U D
    rw [xa (by rw [data_len]; omega)] at h
    exact ⟨zy (tag_yes s hl (by rw [h]; rfl)).symm,rfl⟩
 ·have hl':(12:Int) < s.size:=by omega
  go_enter Tryz.func44,Tryz.ntmps44
  go_wp2_with fail
  go_ret
  exact ⟨zy (tag_long s hl).symm,rfl⟩
theorem l03Levels_any (v:Value) (l:List Od) (w:World) (hr:RdR Od.vs 6 w v l) (hn:l.length ≤ 1000) :
  Calls Tryz.prog 47 #[v] w fun e w'=>e = .returned (H (nlev l:Nat))∧w.grownBy w' none:=by
 obtain ⟨a,A,rfl,xD,hc⟩:=hr
 have xq:∀ (k:Nat) (c:Od),l[k]? = some c→∃ b off,a = some (J b off)∧b < w.heap.size∧w.rangeAt b (off + k * 6) c.vs:=by
  intro k c hk
  obtain ⟨b,off,Q,N,h3⟩:=hc (by intro h; rw [h] at hk; simp at hk)
  exact ⟨b,off,Q,N,h3 k c hk⟩
 have HC:=Y xq
 clear xq hc
 go_enter Tryz.func47,Tryz.ntmps47
 go_wp2_with fail
 go_loopw [3,4] (fun nv iv wr=>∃ (i n:Nat),nv = H n∧i ≤ l.length∧iv = H i∧Hid (n = nlev (l.take i))∧n ≤ i∧w.grownBy wr none) (fun _ iv _=>l.length - (intOf iv).toNat)
 case atStart=>exact ⟨0,0,rfl,Nat.zero_le _,rfl,by simp [Hid,nlev,nlevR],Nat.le_refl _,yR _ _⟩
 case round =>
  obtain ⟨i,n,rfl,hi,rfl,hnl,hni,hg⟩:=hrel
  have HG:=Y hg
  clear hg
  by_cases xK:i < l.length
  ·obtain ⟨c,vd⟩:∃ c,l[i]? = some c:=⟨_,yH xK⟩
   obtain ⟨b,off,rfl,L,xo⟩:=U HC i c vd
   have jP:=Y vd
   have qk:=Y xo
   have uv:(i:Int) < l.length:=by omega
   have HNN:Hid (nlev (l.take (i + 1)) = n + (bH c (l.take i)).toNat):=by
    show _ = _
    rw [takeR l i c vd,nlev_fresh,← U hnl]
   clear vd xo hnl
   go_wp2_with fail
   go_loopw [5,6] (fun fv kv wq=>∃ (k:Nat) (fb:Bool),fv = .bool fb∧k ≤ i∧kv = H k∧Hid (fb = bH c (l.take k))∧w.grownBy wq none) (fun _ kv _=>i - (intOf kv).toNat)
   case atStart=>exact ⟨0,true,rfl,Nat.zero_le _,rfl,rfl,U HG⟩
   case round =>
    obtain ⟨k,fb,rfl,hk,rfl,hfb,hg⟩:=hrel
    have HGQ:=Y hg
    clear hg
    by_cases hki:k < i
    ·obtain ⟨y,hky⟩:∃ y,l[k]? = some y:=⟨_,yH (by omega)⟩
     obtain ⟨b',uJ,kV,kL,qu⟩:=U HC k y hky
     simp only [Option.some.injEq,Addr.mk.injEq,and_true] at kV
     obtain ⟨rfl,rfl⟩:=kV
     have HFN:Hid (bH c (l.take (k + 1)) = (fb && difB c y)):=by
      show _ = _
      rw [takeR l k y hky,U hfb,bH,List.all_append]; simp [bH]
     obtain ⟨-,e1,e2,-⟩:=zC (zq (U qk) (U HGQ) L (by simp))
     obtain ⟨-,d1,d2,-⟩:=zC (zq qu (U HGQ) L (by simp))
     have hki':(k:Int) < i:=by omega
     have hkl':(k:Int) < l.length:=by omega
     have uU:∀ (fb':Bool),fb' = (fb && difB c y)→Hid (fb' = bH c (l.take (k + 1))):=fun fb' h=>by show _ = _; rw [h,U HFN]
     have vu:=Y uU
     clear hky qu uU
     cases fb
     ·go_wp2_with fail
      go_quiet (fail)
      go_wp2_with fail
      go_roundw
      case rel=>exact ⟨k + 1,false,rfl,by omega,by go_num,U vu _ rfl,bR (U HGQ) rfl rfl rfl rfl⟩
      case measure=>simp [intOf]; omega
     ·by_cases Q:y.side = c.side
      ·have oE:(y.side != c.side) = false:=by simpa using Q
       by_cases N:y.ticks = c.ticks
       ·have hd:(true && difB c y) = false:=by simp [difB,Q,N]
        go_wp2_with fail
        go_quiet (fail)
        go_wp2_with fail
        go_roundw
        case rel=>exact ⟨k + 1,false,by first | rfl | simp [N],by omega,by go_num,U vu _ hd.symm,bR (U HGQ) rfl rfl rfl rfl⟩
        case measure=>simp [intOf]; omega
       ·have hd:(true && difB c y) = true:=by simp [difB,N]
        go_wp2_with fail
        go_quiet (fail)
        go_wp2_with fail
        go_roundw
        case rel=>exact ⟨k + 1,true,by first | rfl | simp [N],by omega,by go_num,U vu _ hd.symm,bR (U HGQ) rfl rfl rfl rfl⟩
        case measure=>simp [intOf]; omega
      ·have oE:(y.side != c.side) = true:=by simpa using Q
       have hd:(true && difB c y) = true:=by simp [difB,Q]
       go_wp2_with fail
       go_quiet (fail)
       go_wp2_with fail
       go_roundw
       case rel=>exact ⟨k + 1,true,by first | rfl | simp,by omega,by go_num,U vu _ hd.symm,bR (U HGQ) rfl rfl rfl rfl⟩
       case measure=>simp [intOf]; omega
    ·obtain rfl:k = i:=by omega
     have HF:=hfb
     cases fb
     ·have HE:Hid (nlev (l.take (k + 1)) = n):=by show _ = _; rw [U HNN,← U HF]; rfl
      clear hfb
      go_wp2_with fail
      exact ⟨⟨k + 1,n,rfl,by omega,by go_num,(U HE).symm,by omega,U HGQ⟩,by simp [intOf]; omega⟩
     ·have HE:Hid (nlev (l.take (k + 1)) = n + 1):=by show _ = _; rw [U HNN,← U HF]; rfl
      clear hfb
      go_wp2_with fail
      exact ⟨⟨k + 1,n + 1,by go_num,by omega,by go_num,(U HE).symm,by omega,U HGQ⟩,by simp [intOf]; omega⟩
  ·go_wp2_with fail
   go_ret
   have h:=U hnl
   rw [yZ (by omega)] at h
   subst h
   exact ⟨rfl,U HG⟩
end Go.Proofs.YtdliebbfcmdmaaaGreat
