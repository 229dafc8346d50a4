/-
  A script of commands drawn out of the source, and out of a code: proved by walking the functions.
-/
import Derived.Test.YtbakanofkghmiaaGreatQj22
set_option linter.unusedVariables false
set_option maxHeartbeats 6400000
set_option maxRecDepth 100000
namespace Go.Proofs.YtbakanofkghmiaaGreat
open Go.RowKit
theorem Tryz.infoCmdD:(Tryz.prog.info? 43).map (fun i=>(i.zero,i.size,i.bytes)) = some (some (.agg (yx 0 0 0 0 0 0 0 ⟨#[]⟩).toArray),8,72):=by kernel_rfl
theorem cells_srcD (w:World) (cs:List Value) (t:TypeId) (j:Nat) (u:Value) (h:cs[j]? = some u):(w.alloc (Obj.cells cs.toArray t)).cell? (((yq w 0):Addr).add j) = some u:=by
 rw [Addr.add_mid,cell_of_row _ w.heap.size (0 + j) cs.toArray t (0,0) (heap_alloc_new w _)]
 simpa using h
theorem gr_newD {w wr w2:World} {B:Nat} {row:Option Nat} (h:w.grownBy wr (some B)) (hg:wr.grownBy w2 row) (hr:∀ k,row = some k→w.heap.size ≤ k):w.grownBy w2 (some B) :=
 ⟨hg.os.trans h.os,hg.tape.trans h.tape,hg.output.trans h.output,yO h.size hg.size,
  fun i hi xB=>(hg.block i (yK hi h.size) (fun e=>by have:=hr i e.symm; omega)).trans (h.block i hi xB)⟩
theorem cK {W:World} {B e z n:Nat} {v:Value} {xs:List Value} (h:W.ownsRow B e z v n xs):∃ a A,v = .slice a n A:=by
 rcases h.2 with ⟨Q,N⟩ | ⟨g,A,xu,Q,_⟩
 ·exact ⟨none,0,by rw [Q,N]⟩
 ·exact ⟨_,_,Q⟩
theorem own_baseD {W:World} {B B' e z n:Nat} {v:Value} {xs:List Value} (h:W.ownsRow B e z v n xs) (hB:B' ≤ B):W.ownsRow B' e z v n xs:=by
 refine ⟨h.1,?_⟩
 rcases h.2 with h | ⟨g,A,xu,Q,N,h3⟩
 ·exact .inl h
 ·exact .inr ⟨g,A,xu,Q,yO hB N,h3⟩
theorem prW_eq {y z:Nat} (h:PEq y z) (hz:PrW z):PrW y:=by
 rcases h with rfl | ⟨Q,-⟩
 ·exact hz
 ·exact prW_nan Q
theorem flt_prW (k:Nat):PrW (fltL.getD k 0):=by
 by_cases h:k < 15
 ·rcases (show k = 0 ∨ k = 1 ∨ k = 2 ∨ k = 3 ∨ k = 4 ∨ k = 5 ∨ k = 6 ∨ k = 7 ∨ k = 8 ∨ k = 9 ∨ k = 10 ∨ k = 11 ∨ k = 12 ∨ k = 13 ∨ k = 14 by omega) with rfl | rfl | rfl | rfl | rfl | rfl | rfl | rfl | rfl | rfl | rfl | rfl | rfl | rfl | rfl
  all_goals exact prW_of (by kernel_rfl)
 ·rw [List.getD_eq_getElem?_getD,List.getElem?_eq_none (by show 15 ≤ k; omega)]
  exact prW_of (by kernel_rfl)
theorem prl_prW (k:Nat):PrW (prL.getD k 0):=by
 by_cases h:k < 9
 ·rcases (show k = 0 ∨ k = 1 ∨ k = 2 ∨ k = 3 ∨ k = 4 ∨ k = 5 ∨ k = 6 ∨ k = 7 ∨ k = 8 by omega) with rfl | rfl | rfl | rfl | rfl | rfl | rfl | rfl | rfl
  all_goals exact prW_of (by kernel_rfl)
 ·rw [List.getD_eq_getElem?_getD,List.getElem?_eq_none (by show 9 ≤ k; omega)]
  exact prW_of (by kernel_rfl)
theorem getD_len {ts:List ByteArray} (h:∀ s ∈ ts,s.size ≤ 20) (k:Nat):(ts.getD k ⟨#[]⟩).size ≤ 20:=by
 rw [List.getD_eq_getElem?_getD]
 cases e:ts[k]? with
 | none=>exact Nat.zero_le _
 | some s=>exact h s (yP e)
theorem drOk_eq {c d:Cm} (h:CmEq c d) (hd:DrOk d):DrOk c:=⟨by rw [h.g]; exact hd.1,prW_eq h.p hd.2⟩
theorem cmdF_ok (l:List Int) (ids:Int) (s:Sr):DrOk (cmdF l ids s).1:=by
 have z:PrW 0:=prW_of (by kernel_rfl)
 rw [cmdF]
 split
 ·exact ⟨getD_len tags8_len _,flt_prW _⟩
 ·split
  ·exact ⟨Nat.zero_le _,z⟩
  ·split
   ·exact ⟨Nat.zero_le _,z⟩
   ·split
    ·exact ⟨Nat.zero_le _,z⟩
    ·refine ⟨getD_len tag3_len _,?_⟩
     show PrW (cpF _ _ _).1
     rw [cpF]
     split
     ·exact z
     ·exact prl_prW _
def CsEq:List Cm→List Cm→Prop
 | [],[]=>True
 | c :: cs,d :: ds=>CmEq c d∧CsEq cs ds
 | _,_=>False
theorem csEq_len:∀ {cs ds:List Cm},CsEq cs ds→cs.length = ds.length
 | [],[],_=>rfl
 | _ :: _,_ :: _,h=>by simpa using csEq_len h.2
 | [],_ :: _,h=>h.elim
 | _ :: _,[],h=>h.elim
theorem csEq_snoc:∀ {cs ds:List Cm} {c d:Cm},CsEq cs ds→CmEq c d→CsEq (cs ++ [c]) (ds ++ [d])
 | [],[],_,_,_,e=>⟨e,True.intro⟩
 | _ :: _,_ :: _,_,_,h,e=>⟨h.1,csEq_snoc h.2 e⟩
 | [],_ :: _,_,_,h,_=>h.elim
 | _ :: _,[],_,_,h,_=>h.elim
theorem scrF_ok (l:List Int):∀ (n k:Nat) (s:Sr),∀ c ∈ (scrF l n k s).1,DrOk c
 | 0,_,_,_,h=>nomatch h
 | n + 1,k,s,c,h=>by
  rw [scrF] at h
  rcases List.mem_cons.1 h with rfl | h
  ·exact cmdF_ok l k s
  ·exact scrF_ok l n (k + 1) _ c h
theorem scrF_len (l:List Int):∀ (n k:Nat) (s:Sr),(scrF l n k s).1.length = n
 | 0,_,_=>rfl
 | n + 1,k,s=>by rw [scrF]; simpa using scrF_len l n (k + 1) _
theorem csEq_ok:∀ {cs ds:List Cm},CsEq cs ds→(∀ d ∈ ds,DrOk d)→∀ c ∈ cs,DrOk c
 | [],[],_,_,_,h=>nomatch h
 | _ :: _,d :: ds,h,hd,c,hc=>by
  rcases List.mem_cons.1 hc with rfl | hc
  ·exact drOk_eq h.1 (hd d (by simp))
  ·exact csEq_ok h.2 (fun x hx=>hd x (by simp [hx])) c hc
 | [],_ :: _,h,_,_,_=>h.elim
 | _ :: _,[],h,_,_,_=>h.elim
def scS (l:List Int) (s:Sr):List Cm:=(scrF l (nxF l (szF l 24 + 4) s).1.toNat 0 (nxF l (szF l 24 + 4) s).2).1
def scD (l:List Int):List Cm:=scS l ⟨0,(l.length:Int) % 1000⟩
theorem szF_bd (l:List Int):1 ≤ szF l 24∧szF l 24 ≤ 24:=by
 rw [szF]; split <;> omega
theorem scS_ok (l:List Int) (s:Sr):(∀ c ∈ scS l s,DrOk c)∧(scS l s).length ≤ 27:=by
 refine ⟨scrF_ok l _ _ _,?_⟩
 rw [scS,scrF_len]
 have:=szF_bd l
 have:=nx_bd (l:=l) (n:=szF l 24 + 4) (s:=s) (by omega)
 omega
theorem srX_keep {B:Nat} {w w':World} {v:Value} {l:List Int} {s:Sr} {G:Option Nat} (h:SrX B w v l s) (hg:w.grownBy w' G) (hB:some B ≠ G) (hv:l ≠ []→v.ownBlock ≠ G):SrX B w' v l s:=by
 have X:=hg.block B (bY h.src) hB
 have e:∀ i,w'.cell? ⟨B,i,none⟩ = w.cell? ⟨B,i,none⟩:=fun i=>yR (a:=⟨B,i,none⟩) X
 exact ⟨src_keep h.src hg hB hv,h.a0,h.s0,h.s1,(e 1).trans h.c1,(e 2).trans h.c2⟩
set_option maxRecDepth 100000 in
set_option maxHeartbeats 3200000 in
theorem script_ex (B:Nat) (v:Value) (l:List Int) (s:Sr) (w:World) (h:SrX B w v l s) (hm:s.at_ ≤ 1000000) :
  Calls Tryz.prog 30 #[.pointer (some ⟨B,0,none⟩)] w fun e w'=>∃ (o:Value) (cs:List Cm),e = .returned o∧CsEq cs (scS l s)∧w'.ownsRow w.heap.size 43 8 o cs.length (cs.flatMap Cm.vs)∧w.grownBy w' (some B):=by
 obtain ⟨i0,hi,uF,uI,uT⟩:=info_parts Tryz.infoCmdD
 have uz:=hide (show scS l s = (scrF l (nxF l (szF l 24 + 4) s).1.toNat 0 (nxF l (szF l 24 + 4) s).2).1 from rfl)
 have HLN:=hide (scS_ok l s).2
 generalize scS l s = xk at uz HLN ⊢
 have HSZ:=hide (fun W hW=>size_ex B v l 24 s W hW)
 obtain ⟨pT,hy1⟩:=szF_bd l
 generalize szF l 24 = y at HSZ uz pT hy1
 have vF:=hide (fun W hW=>bd B v l (y + 4) s W hW (by omega) (by omega) (by omega))
 have hat:=aN l (y + 4) s
 obtain ⟨jg,hj1⟩:=nx_bd (l:=l) (n:=y + 4) (s:=s) (by omega)
 generalize nxF l (y + 4) s = hj at vF hat jg hj1 uz
 obtain ⟨j0,s1⟩:=hj
 simp only at vF hat jg hj1 uz
 have HV:=hide (src_far h.src)
 have HS:=hide h
 have hB:=bY h.src
 clear h
 go_enter Tryz.func30,Tryz.ntmps30
 go_wp2_with fail
 refine (U HSZ _ (bS (cD (U HS)) _).1).mono ?_
 rintro e w1 ⟨rfl,rfl⟩
 have hwr:IntKind.i64.wrap (y + 4) = y + 4:=by rw [IntKind.wrap_i64]; omega
 go_wp2_with fail
 refine (U vF _ (bS (cD (U HS)) _).1).mono ?_
 rintro e w1 ⟨rfl,hE⟩
 have HE:=hide (show SrXE B w v l s1 w1 from ⟨hE.1,zZ (bJ w _ _) hE.2⟩)
 have HO:=hide ((World.ownsRow_made (base:=w.heap.size) (e:=43) (size:=8) w #[] 0 (Nat.le_refl _) (by decide) rfl).kept hE.2 (.inr (by simp [Value.ownBlock]; omega)))
 clear hE HSZ vF
 go_wp2_with fail
 go_loopw [3,4] (fun ov iv wr=>∃ (cs ds:List Cm) (j:Nat) (st:Sr),iv = .int .i64 j∧cs.length + j ≤ 27∧CsEq cs ds∧xk = ds ++ (scrF l j cs.length st).1∧st.at_ ≤ 1000003 + 30 * cs.length∧wr.ownsRow w.heap.size 43 8 ov cs.length (cs.flatMap Cm.vs)∧SrX B wr v l st∧w.grownBy wr (some B)) (fun _ iv _=>(intOf iv).toNat)
 case atStart =>
  obtain ⟨j,rfl⟩:=Int.eq_ofNat_of_zero_le jg
  exact ⟨[],[],j,s1,rfl,by simp; omega,True.intro,by rw [U uz,Int.toNat_natCast]; rfl,by simp; omega,U HO,(U HE).1,(U HE).2⟩
 case round =>
  obtain ⟨cs,ds,j,st,rfl,xG,hxs,hds,hat2,xI,hsrc,uc⟩:=hrel
  have HX:=hide hxs
  have HDS:=hide hds
  have oW:=hide xI
  have HSR:=hide hsrc
  have oV:=hide uc
  have xB:Hid (∀ k,k < w.heap.size→u3.ownBlock ≠ some k):=fun k hk e=>by have:=(xI.lt k e).1; omega
  obtain ⟨ao,co,rfl⟩:=cK xI
  clear hxs xI hsrc uc hds HE HO uz HS
  by_cases R:j = 0
  ·subst R
   have HDE:Hid (CsEq cs xk):=by rw [show xk = ds by rw [U HDS,scrF]; simp]; exact U HX
   clear HDS
   go_wp2_with fail
   go_ret
   exact ⟨_,cs,rfl,U HDE,U oW,U oV⟩
  have hj':(0:Int) < j:=by omega
  clear R
  go_wp2_with fail
  refine (cmd_ex B v l cs.length st _ (U HSR) (by omega) (by omega) (by omega)).mono ?_
  rintro e w3 ⟨⟨ck,c1,ct,cl,cq,ci,cp,cg⟩,rfl,hcg,hE3⟩
  have HE3:=hide hE3
  have qA:=hide ((U oW).kept hE3.2 (.inr (U xB B hB)))
  have HCG:Hid (CmEq ⟨ck,c1,ct,cl,cq,ci,cp,cg⟩ (cmdF l cs.length st).1):=hcg
  clear hE3 hcg
  unfold Cm.vs
  simp only
  have jd:w.heap.size ≤ w3.heap.size:=yO (U oV).size (U HE3).2.size
  go_wp2_with (at_builtin; go_must (refine wpList_append_own _ rfl _ _ 23 rfl w.heap.size 43 i0 _ 8 72 Tryz.underlying23 hi uF uI uT rfl (by decide) _ cs.length (cs.flatMap Cm.vs) rfl ((U qA).alloc _) ⟨w3.heap.size,0,none⟩ 1 1 (Cm.vs ⟨ck,c1,ct,cl,cq,ci,cp,cg⟩) rfl rfl (cells_srcD w3 _ _) (by simp [Value.oneCell',Cm.vs]) (by unfold maxLen; omega) (by omega) (by simp; omega) ?_); intro v4 w4 qF hg4 _)
  go_roundw
  case rel =>
   have ha:=cmd_at l cs.length st
   refine ⟨cs ++ [⟨ck,c1,ct,cl,cq,ci,cp,cg⟩],ds ++ [(cmdF l cs.length st).1],j - 1,(cmdF l cs.length st).2,by go_num,by simp; omega,csEq_snoc (U HX) (U HCG),?_,by simp; omega,by simpa using qF,?_,?_⟩
   ·rw [U HDS]
    obtain ⟨i,rfl⟩:∃ i,j = i + 1:=⟨j - 1,by omega⟩
    rw [scrF]
    simp
   ·refine srX_keep (bS (cD (U HE3).1) _).1 hg4 (fun e=>U xB B hB e.symm) (fun hn e=>?_)
    obtain ⟨k,Q,N⟩:=U HV hn
    exact U xB k N (e ▸ Q)
   ·exact gr_newD (zZ (zZ (U oV) (U HE3).2) (bJ w3 _ _)) hg4 (fun k hk=>((U qA).lt k hk).1)
  case measure=>simp [intOf]; omega
theorem source_ex (v:Value) (l:List Int) (w:World) (h:Rd w v l) (X:Bts l) :
  Calls Tryz.prog 29 #[v] w fun e w'=>e = .returned (.pointer (some ⟨w.heap.size,0,none⟩))∧SrX w.heap.size w' v l ⟨0,(l.length:Int) % 1000⟩∧Below w.heap.size w w':=by
 have HR:=hide h
 have HB:=hide X
 have HV:=hide (fun xB=>rd_new h xB)
 obtain ⟨a,A,rfl,hl,_⟩:=h
 clear X
 go_enter Tryz.func29,Tryz.ntmps29
 go_wp2_with fail
 go_ret
 refine ⟨rfl,⟨⟨rd_grown (U HR) (bJ w _ _) (U HV),U HV,U HB,cell_of_row _ _ _ _ _ (0,0) (heap_alloc_new w _),⟨0,(l.length:Int) % 1000,by omega,by show (0:Int) ≤ 0; omega,by omega,by omega,cell_of_row _ _ _ _ _ (0,0) (heap_alloc_new w _),cell_of_row _ _ _ _ _ (0,0) (heap_alloc_new w _)⟩,?_,?_⟩,by show (0:Int) ≤ 0; omega,by show 0 ≤ (l.length:Int) % 1000; omega,by show (l.length:Int) % 1000 < 2147483648; omega,cell_of_row _ _ _ _ _ (0,0) (heap_alloc_new w _),cell_of_row _ _ _ _ _ (0,0) (heap_alloc_new w _)⟩,(Below.refl _ w).alloc (Nat.le_refl _) _⟩
 all_goals
  unfold World.frozen?
  rw [heap_alloc_new]
  simp
theorem scriptOf_ex (v:Value) (l:List Int) (w:World) (h:Rd w v l) (X:Bts l) :
  Calls Tryz.prog 9 #[v] w fun e w'=>∃ (o:Value) (cs:List Cm),e = .returned o∧CsEq cs (scD l)∧w'.ownsRow w.heap.size 43 8 o cs.length (cs.flatMap Cm.vs)∧Below w.heap.size w w':=by
 have HR:=hide h
 have HB:=hide X
 obtain ⟨a,A,rfl,hl,_⟩:=h
 clear X
 go_enter Tryz.func9,Tryz.ntmps9
 go_wp2_with fail
 refine (source_ex _ l _ (U HR) (U HB)).mono ?_
 rintro e w1 ⟨rfl,hS,xV⟩
 have HS:=hide hS
 have xU:=hide xV
 clear hS xV
 go_wp2_with fail
 refine (script_ex _ _ l _ _ (U HS) (by show (0:Int) ≤ 1000000; omega)).mono ?_
 rintro e w2 ⟨o,cs,rfl,Q,h3,hE⟩
 have HX:=hide Q
 have HO:=hide h3
 have HE:=hide hE
 clear hE Q h3
 go_wp2_with fail
 go_ret
 exact ⟨_,cs,rfl,U HX,own_baseD (U HO) (U xU).size,own_below_grown (U xU) (Nat.le_refl _) (U HE)⟩
def fdyF:List Od→Nat→Int
 | [],_=>-1
 | o :: r,k=>if o.life = 1 then k else fdyF r (k + 1)
def fdy (l:List Od):Int:=fdyF l 0
theorem ep (o:Od) (w:World) :
  Calls Tryz.prog 118 #[.agg (yw o.id o.side o.ticks o.left o.life o.tag).toArray] w fun e w'=>e = ym (.bool (o.life == 1))∧yn w w':=by
 obtain ⟨uN,side,ticks,left,life,tag⟩:=o
 simp only
 go_enter Tryz.func118,Tryz.ntmps118
 go_wp2_with fail
 go_ret
 exact ⟨rfl,by go_grown⟩
theorem indexDay_any (v:Value) (l:List Od) (w:World) (hr:RdR Od.vs 6 w v l) :
  Calls Tryz.prog 152 #[v,.func (.func 118) #[] #[]] w fun e w'=>e = ym (H (fdy l))∧yn w w':=by
 obtain ⟨a,A,rfl,xG,hc⟩:=hr
 have xr:∀ (k:Nat) (c:Od),l[k]? = some c→∃ b off,a = some (J b off)∧b < w.heap.size∧w.rangeAt b (off + k * 6) c.vs:=by
  intro k c hk
  obtain ⟨b,off,Q,N,h3⟩:=hc (by intro h; rw [h] at hk; simp at hk)
  exact ⟨b,off,Q,N,h3 k c hk⟩
 have HC:=Y xr
 clear xr hc
 go_enter Tryz.func152,Tryz.ntmps152
 go_wp2_with fail
 go_loopw [8] (fun iv wr=>∃ (k:Nat),k ≤ l.length∧iv = H k∧Hid (fdy l = fdyF (l.drop k) k)∧yn w wr) (fun iv _=>l.length - (intOf iv).toNat)
 case atStart=>exact ⟨0,Nat.zero_le _,rfl,rfl,Below.refl _ _⟩
 case round =>
  obtain ⟨k,hk,rfl,jZ,xm⟩:=hrel
  have HB:=Y xm
  clear xm
  by_cases xL:k < l.length
  ·obtain ⟨c,vd⟩:∃ c,l[k]? = some c:=⟨_,yI xL⟩
   have HP:Hid (fdy l = if c.life = 1 then (k:Int) else fdyF (l.drop (k + 1)) (k + 1)):=by
    have:=U jZ
    rw [drop_get vd] at this
    exact this
   obtain ⟨b,off,rfl,X,xp⟩:=U HC k c vd
   obtain ⟨g0,g1,g2,g3,g4,g5⟩:=zF (zb xp (U HB) X)
   have uy:(k:Int) < l.length:=by omega
   clear vd xp X jZ
   go_wp2_with fail
   refine (ep c wr).mono ?_
   rintro e w3 ⟨rfl,um⟩
   have xQ:=Y (eH (U HB) um)
   clear um
   by_cases qq:c.life = 1
   ·have X:(c.life == 1) = true:=by simpa using qq
    have HK:Hid (fdy l = k):=by have:=U HP; rw [if_pos qq] at this; exact this
    clear qq
    go_wp2_with fail
    go_ret
    exact ⟨zt (U HK).symm,U xQ⟩
   ·have X:(c.life == 1) = false:=by simpa using qq
    have HK:Hid (fdy l = fdyF (l.drop (k + 1)) (k + 1)):=by have:=U HP; rw [if_neg qq] at this; exact this
    clear qq
    go_wp2_with fail
    go_roundw
    case rel=>exact ⟨k + 1,by omega,by go_num,U HK,U xQ⟩
    case measure=>simp [intOf]; omega
  ·have HK:Hid (fdy l = -1):=by
    have h:=U jZ
    rw [xb (by omega)] at h
    exact h
   go_wp2_with fail
   go_ret
   exact ⟨zt (U HK).symm,U HB⟩
theorem ze {W:World} {b n j:Nat} (h:W.there b 0 n) (R:j < n):∃ u,W.cell? (J b j) = some u∧W.frozen? (J b j) = false:=by
 obtain ⟨Q,N⟩:=h j R
 rw [Nat.zero_add] at Q N
 obtain ⟨u,hu⟩:=Option.isSome_iff_exists.1 Q
 exact ⟨u,hu,N⟩
theorem bQ {x:List Bool} {n j:Nat} (hx:x.length = n) (R:j < n):x[j]? = some false ∨ x[j]? = some true:=by
 rw [yI (by omega)]
 cases x[j] <;> simp
def DE (mb B:Nat) (W0:World) (vo:Value) (ts:List Ev) (e:Ev) (p q:Prop) (V:World):Nat→Value→Prop
 | 0,v=>v = I mb 0
 | 1,v=>v = I mb 0
 | 2,v=>v = I mb 0
 | 3,v=>v = I mb 11
 | 4,v=>v = vo
 | 5,v=>v = .agg (yv e.kind e.cmd.k e.cmd.s e.cmd.t e.cmd.l e.cmd.q e.cmd.i e.cmd.p e.cmd.g e.id e.other e.qty e.price e.reason).toArray
 | 6,v=>∃ s,v = .slice (some (J s 0)) 1 1∧(¬ p→∀ j u,e.vs[j]? = some u→V.cell? (((J s 0):Addr).add j) = some u)
 | 7,v=>∃ a c,v = .slice a (ts.length + 1) c∧p∧(¬ q→ERow V B v (ts ++ [e])∧W0.grownBy V vo.ownBlock)∧(q→V.cell? (J mb 11) = some v∧ERow V B v (ts ++ [e])∧TookAt mb 10 vo.ownBlock W0 V)
 | 8,v=>v = I mb 0
 | 9,v=>v = I mb 11
 | _,_=>True
section
variable {mb B:Nat} {W0 V V':World} {vo:Value} {ts:List Ev} {e:Ev} {p q:Prop}
theorem de_alloc {o:Obj} (hp:¬ p):∀ j v,DE mb B W0 vo ts e p q V j v→DE mb B W0 vo ts e p q (V.alloc o) j v:=by
 intro j v h
 match j with
 | 0 | 1 | 2 | 3 | 4 | 5 | 8 | 9=>exact h
 | 6 =>
  obtain ⟨s,Q,N⟩:=h
  exact ⟨s,Q,fun hp j u hu=>(yW _ _ _ (yL V _ (N hp j u hu))).trans (N hp j u hu)⟩
 | 7=>obtain ⟨_,_,_,N,_⟩:=h; exact absurd N hp
 | j + 10=>trivial
theorem de_one:∀ j v,j ≠ 7→DE mb B W0 vo ts e False False V j v→DE mb B W0 vo ts e True False V' j v:=by
 intro j v R h
 match j with
 | 0 | 1 | 2 | 3 | 4 | 5 | 8 | 9=>exact h
 | 6 =>
  obtain ⟨s,Q,N⟩:=h
  exact ⟨s,Q,fun hp=>absurd trivial hp⟩
 | 7=>exact absurd rfl R
 | j + 10=>trivial
theorem de_two {v:Value}:∀ j,j ≠ 10→DE mb B W0 vo ts e True False V j v→(j = 7→DE mb B W0 vo ts e True True V' 7 v)→DE mb B W0 vo ts e True True V' j v:=by
 intro j R h h7
 match j with
 | 0 | 1 | 2 | 3 | 4 | 5 | 8 | 9=>exact h
 | 6 =>
  obtain ⟨s,Q,N⟩:=h
  exact ⟨s,Q,fun hp=>absurd trivial hp⟩
 | 7=>exact h7 rfl
 | j + 10=>trivial
end
theorem tell_any (mb B:Nat) (vo:Value) (ts:List Ev) (e:Ev) (w:World) (c11:w.cell? (J mb 11) = some vo) (f11:w.frozen? (J mb 11) = false) (jb:∃ xu,w.heap[mb]? = some (.cells xu 71 (0,0)))
  (jW:ERow w B vo ts) (hB:B ≤ w.heap.size) (hn:ts.length ≤ 1000) :
  Calls Tryz.prog 65 #[I mb 0,.agg (yv e.kind e.cmd.k e.cmd.s e.cmd.t e.cmd.l e.cmd.q e.cmd.i e.cmd.p e.cmd.g e.id e.other e.qty e.price e.reason).toArray] w fun r w'=>∃ qu,r = ym (.tuple #[])∧w'.cell? (J mb 11) = some qu∧ERow w' B qu (ts ++ [e])∧TookAt mb 10 vo.ownBlock w w':=by
 obtain ⟨i0,uG,uF,uI,uT⟩:=info_parts infoEv
 have qJ:some mb ≠ vo.ownBlock:=zl jW jb (by decide)
 have qE:mb < w.heap.size:=yL w _ c11
 have xV:=eE w (E (yv e.kind e.cmd.k e.cmd.s e.cmd.t e.cmd.l e.cmd.q e.cmd.i e.cmd.p e.cmd.g e.id e.other e.qty e.price e.reason).toArray 46)
 have xU:=Y xV
 have xC:w.heap.size < (w.alloc (E (yv e.kind e.cmd.k e.cmd.s e.cmd.t e.cmd.l e.cmd.q e.cmd.i e.cmd.p e.cmd.g e.id e.other e.qty e.price e.reason).toArray 46)).heap.size:=by rw [zh]; omega
 have js:Hid (World.rangeAt (w.alloc (E (yv e.kind e.cmd.k e.cmd.s e.cmd.t e.cmd.l e.cmd.q e.cmd.i e.cmd.p e.cmd.g e.id e.other e.qty e.price e.reason).toArray 46)) w.heap.size 0 e.vs):=zi w e.vs _
 have qd:Hid (World.cell? (w.alloc (E (yv e.kind e.cmd.k e.cmd.s e.cmd.t e.cmd.l e.cmd.q e.cmd.i e.cmd.p e.cmd.g e.id e.other e.qty e.price e.reason).toArray 46)) (J mb 11) = some vo):=(xV.cell (p:=(J mb 11)) qE).trans c11
 have qz:Hid (World.frozen? (w.alloc (E (yv e.kind e.cmd.k e.cmd.s e.cmd.t e.cmd.l e.cmd.q e.cmd.i e.cmd.p e.cmd.g e.id e.other e.qty e.price e.reason).toArray 46)) (J mb 11) = false):=(World.frozen?_of_block (a:=(J mb 11)) (xV.block mb qE)).trans f11
 have uA:Hid (∃ xu,(w.alloc (E (yv e.kind e.cmd.k e.cmd.s e.cmd.t e.cmd.l e.cmd.q e.cmd.i e.cmd.p e.cmd.g e.id e.other e.qty e.price e.reason).toArray 46)).heap[mb]? = some (.cells xu 71 (0,0))):=by obtain ⟨xu,hc⟩:=jb; exact ⟨xu,(xV.block mb qE).trans hc⟩
 have jS:=Y (zJ jW xV)
 clear c11 f11 jb jW xV
 go_enter Tryz.func65,Tryz.ntmps65
 refine eI fun hR xv=>?_
 go_wp2_with fail
 refine U xv _ _ ?_
 clear xv
 generalize (w.alloc (E (yv e.kind e.cmd.k e.cmd.s e.cmd.t e.cmd.l e.cmd.q e.cmd.i e.cmd.p e.cmd.g e.id e.other e.qty e.price e.reason).toArray 46)) = hb at xU xC js qd qz uA jS ⊢
 have hBX:B ≤ hb.heap.size:=by omega
 have jY:mb < hb.heap.size:=by omega
 refine zj (RT (fun V=>yn hb V) (fun f=>{ tmps:=#[I mb 0,.agg (yv e.kind e.cmd.k e.cmd.s e.cmd.t e.cmd.l e.cmd.q e.cmd.i e.cmd.p e.cmd.g e.id e.other e.qty e.price e.reason).toArray,M,yp w 0,f 0,f 1,f 2,f 3,f 4,f 5,f 6,f 7,f 8,f 9],defers:=[] }) 7 10 (DE mb B hb vo ts e)) (by kernel_rfl) ?_ ?_ ?_
 ·exact ⟨fun _=>M,rfl,fun _=>⟨rfl,rfl,rfl,Nat.le_refl _,fun _ _=>rfl⟩,fun j R=>by rw [yJ] at R; split at R <;> simp at R⟩
 ·rintro x xn V ⟨f,rfl,-,hD⟩ hx xN
  have xq:=zS xN hx (acyc _ (by kernel_rfl))
  have k7:x[7]? = some true:=xq 7 (by simp)
  have k10:x[10]? = some true:=xq 10 (by simp)
  obtain ⟨va,vc,-,-,-,vl⟩:=hD 7 k7
  obtain ⟨q1,q2,q3⟩:=vl k10
  have vr:Hid (_∧_∧_):=⟨q1,q2,q3⟩
  clear hD xq xN hx k7 k10 vl q1 q2 q3
  dsimp only
  go_wp2_with fail
  go_end0
  exact ⟨_,rfl,(U vr).1,(U vr).2.1,ch (bI (aW (U xU) tg) qE qJ) (U vr).2.2⟩
 ·rintro x xn V i op ⟨f,rfl,jw,hD⟩ xp hx Z xz D
  have uk:=Y jw
  have HD:=Y hD
  have xo:∀ b o u,hb.cell? (J b o) = some u→¬ x[7]? = some true→V.cell? (J b o) = some u:=fun b o u hu hn7=>((U uk hn7).cell (p:=(J b o)) (yL hb _ hu)).trans hu
  have n7':i < 7→0 < i→¬ x[7]? = some true:=fun xL jz h7=>by
   have h4:=yf xp 7 rfl h7 4 rfl
   have h6:=yf xp 7 rfl h7 6 rfl
   have h3:=yf xp 4 rfl h4 3 rfl
   have h5:=yf xp 6 rfl h6 5 rfl
   have N:=yf xp 3 rfl h3 2 rfl
   have Q:=yf xp 2 rfl N 1 rfl
   have ul:∀ j,0 < j→j < 7→x[j]? = some true:=fun j jg R=>by
    rcases (by omega:j = 1 ∨ j = 2 ∨ j = 3 ∨ j = 4 ∨ j = 5 ∨ j = 6) with rfl | rfl | rfl | rfl | rfl | rfl <;> assumption
   rw [ul i jz xL] at xz; cases xz
  have n10':i < 10→¬ x[10]? = some true:=fun xL vQ=>by
   have h9:=yf xp 10 rfl vQ 9 rfl
   have h7:=yf xp 10 rfl vQ 7 rfl
   have h8:=yf xp 9 rfl h9 8 rfl
   have h4:=yf xp 7 rfl h7 4 rfl
   have h6:=yf xp 7 rfl h7 6 rfl
   have h0:=yf xp 8 rfl h8 0 rfl
   have h3:=yf xp 4 rfl h4 3 rfl
   have h5:=yf xp 6 rfl h6 5 rfl
   have N:=yf xp 3 rfl h3 2 rfl
   have Q:=yf xp 2 rfl N 1 rfl
   have ul:∀ j,j < 10→x[j]? = some true:=fun j R=>by
    rcases (by omega:j = 0 ∨ j = 1 ∨ j = 2 ∨ j = 3 ∨ j = 4 ∨ j = 5 ∨ j = 6 ∨ j = 7 ∨ j = 8 ∨ j = 9) with rfl | rfl | rfl | rfl | rfl | rfl | rfl | rfl | rfl | rfl <;> assumption
   rw [ul i xL] at xz; cases xz
  clear xp jw
  match i,Z with
  | 0,Z | 1,Z =>
   obtain rfl:=ya Z
   clear D hD
   rw [if_pos (by rfl)];unfold Oper.wp;go_simp
   exact ⟨upd f _ (I mb 0),by simp [upd],zx (U HD) (by decide) (by decide) (fun _ _ h=>h) (U uk) rfl⟩
  | 2,Z =>
   obtain rfl:=ya Z
   have g:f 1 = I mb 0:=hD 1 (ye D 1 rfl)
   clear D hD
   rw [if_pos (by rfl)];unfold Oper.wp;go_simp
   exact ⟨upd f 2 (I mb 0),by simp [upd,g],zx (U HD) (by decide) (by decide) (fun _ _ h=>h) (U uk) rfl⟩
  | 3,Z =>
   obtain rfl:=ya Z
   have g:f 2 = I mb 0:=hD 2 (ye D 2 rfl)
   clear D hD
   rw [if_pos (by rfl)];unfold Oper.wp;go_simp
   exact ⟨upd f 3 (I mb 11),by simp [upd,g],zx (U HD) (by decide) (by decide) (fun _ _ h=>h) (U uk) rfl⟩
  | 4,Z =>
   obtain rfl:=ya Z
   have g:f 3 = I mb 11:=hD 3 (ye D 3 rfl)
   have n7:=n7' (by omega) (by omega)
   have y1:=xo mb 11 _ (U qd) n7
   clear D hD
   rw [if_pos (by rfl)];unfold Oper.wp;go_simp
   exact ⟨upd f 4 (vo),by simp [upd,g],zx (U HD) (by decide) (by decide) (fun _ _ h=>h) (U uk) rfl⟩
  | 5,Z =>
   obtain rfl:=ya Z
   have n7:=n7' (by omega) (by omega)
   have y0:=xo w.heap.size 0 _ (U js 0 _ rfl) n7
   have y1:=xo w.heap.size 1 _ (U js 1 _ rfl) n7
   have y2:=xo w.heap.size 2 _ (U js 2 _ rfl) n7
   have y3:=xo w.heap.size 3 _ (U js 3 _ rfl) n7
   have y4:=xo w.heap.size 4 _ (U js 4 _ rfl) n7
   have y5:=xo w.heap.size 5 _ (U js 5 _ rfl) n7
   have y6:=xo w.heap.size 6 _ (U js 6 _ rfl) n7
   have y7:=xo w.heap.size 7 _ (U js 7 _ rfl) n7
   have y8:=xo w.heap.size 8 _ (U js 8 _ rfl) n7
   have y9:=xo w.heap.size 9 _ (U js 9 _ rfl) n7
   have y10:=xo w.heap.size 10 _ (U js 10 _ rfl) n7
   have y11:=xo w.heap.size 11 _ (U js 11 _ rfl) n7
   have y12:=xo w.heap.size 12 _ (U js 12 _ rfl) n7
   have y13:=xo w.heap.size 13 _ (U js 13 _ rfl) n7
   clear D hD
   rw [if_pos (by rfl)];unfold Oper.wp;go_simp
   exact ⟨upd f 5 (.agg (yv e.kind e.cmd.k e.cmd.s e.cmd.t e.cmd.l e.cmd.q e.cmd.i e.cmd.p e.cmd.g e.id e.other e.qty e.price e.reason).toArray),by simp [upd],zx (U HD) (by decide) (by decide) (fun _ _ h=>h) (U uk) rfl⟩
  | 6,Z =>
   obtain rfl:=ya Z
   have g:f 5 = .agg (yv e.kind e.cmd.k e.cmd.s e.cmd.t e.cmd.l e.cmd.q e.cmd.i e.cmd.p e.cmd.g e.id e.other e.qty e.price e.reason).toArray:=hD 5 (ye D 5 rfl)
   have n7:=n7' (by omega) (by omega)
   have xT:=U uk n7
   have hsf:=sfl
   clear D hD
   rw [if_pos (by rfl)];unfold Oper.wp;go_simp
   refine ⟨upd f 6 (.slice (some (yq V 0)) 1 1),by simp [upd,g],zx (U HD) (by decide) (by decide) (de_alloc n7) (fun _=>xT.alloc xT.size _) ⟨V.heap.size,rfl,fun _=>?_⟩⟩
   exact fun j u h=>cy V e.vs 46 j u h
  | 7,Z =>
   obtain rfl:=ya Z
   have g4:f 4 = vo:=hD 4 (ye D 4 rfl)
   obtain ⟨s,g6,ow⟩:=hD 6 (ye D 6 rfl)
   have n7:¬ x[7]? = some true:=by rw [xz]; simp
   have pU:=n10' (by omega)
   have xT:=U uk n7
   have uX:ERow V B vo ts:=zJ (U jS) xT
   rw [if_pos (by rfl)]
   refine wp_append_own V (.tmp 8) (.tmp 10) 38 rfl B 46 i0 _ 14 120 Tryz.underlying38 uG uF uI uT rfl (by decide) vo ts.length (ts.flatMap Ev.vs) g4 uX (J s 0) 1 1 e.vs g6 rfl (ow n7) (one_ev e) (by unfold maxLen; omega) (by omega) (by have:=xT.size; omega) ?_
   intro v' w' xI uc _
   obtain ⟨ga,gc,rfl⟩:=dM xI (by omega)
   refine ⟨upd f 7 (.slice (some (J ga 0)) (ts.length + 1) gc),rfl,rt_one (by decide) (U HD) xz pU (fun j v R h=>de_one j v R h) ⟨some (J ga 0),gc,rfl,trivial,fun _=>⟨?_,?_⟩,fun h=>h.elim⟩⟩
   ·show World.ownsRow _ _ _ _ _ (ts ++ [e]).length _
    rw [yQ,List.flatMap_append]; simpa using xI
   ·exact (aW xT tg).trans uc
  | 8,Z =>
   obtain rfl:=ya Z
   have g:f 0 = I mb 0:=hD 0 (ye D 0 rfl)
   clear D hD
   rw [if_pos (by rfl)];unfold Oper.wp;go_simp
   exact ⟨upd f 8 (I mb 0),by simp [upd,g],zx (U HD) (by decide) (by decide) (fun _ _ h=>h) (U uk) rfl⟩
  | 9,Z =>
   obtain rfl:=ya Z
   have g:f 8 = I mb 0:=hD 8 (ye D 8 rfl)
   clear D hD
   rw [if_pos (by rfl)];unfold Oper.wp;go_simp
   exact ⟨upd f 9 (I mb 11),by simp [upd,g],zx (U HD) (by decide) (by decide) (fun _ _ h=>h) (U uk) rfl⟩
  | 10,Z =>
   obtain rfl:=ya Z
   have g9:f 9 = I mb 11:=hD 9 (ye D 9 rfl)
   have k7:x[7]? = some true:=D ⟨7,.data⟩ (by simp) rfl
   have pU:¬ x[10]? = some true:=by rw [xz]; simp
   obtain ⟨ga,gc,g7,-,hfa,-⟩:=hD 7 k7
   obtain ⟨jW,uc⟩:=hfa pU
   have y1:=uc.cell (U qd) qJ
   have f1:V.frozen? (J mb 11) = false:=(World.frozen?_of_block (a:=(J mb 11)) (uc.block mb jY qJ)).trans (U qz)
   have jM:=Y (g7 ▸ jW)
   have pp:Hid (∃ xu,V.heap[mb]? = some (.cells xu 71 (0,0))):=by obtain ⟨xu,hc⟩:=U uA; exact ⟨xu,(uc.block mb jY qJ).trans hc⟩
   have oV:=Y uc
   clear D hD jW uc hfa
   rw [if_pos (by rfl)];unfold Oper.wp;go_simp
   refine ⟨upd f 10 M,by simp [upd,g9,g7],rt_two (by decide) (U HD) k7 xz (fun j R hxj h=>de_two j R h (fun hj7=>?_)) trivial⟩
   subst hj7
   obtain ⟨-,-,-,-,-,-⟩:=h
   refine ⟨ga,gc,g7,trivial,fun h=>absurd trivial h,fun _=>?_⟩
   rw [g7]
   refine ⟨yN _ _ _ y1,zv (U jM) (zl (U jM) (U pp) (by decide)) 11 _,?_⟩
   exact ch (bI (U oV) jY qJ) (db (o:=10) _ _)
  | i + 11,Z=>simp at Z
end Go.Proofs.YtbakanofkghmiaaGreat
