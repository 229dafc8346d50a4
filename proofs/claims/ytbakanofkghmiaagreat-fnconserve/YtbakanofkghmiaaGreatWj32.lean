/-
  A script of commands drawn out of the source, and out of a code: proved by walking the functions.
-/
import Derived.Test.YtbakanofkghmiaaGreatWj31
set_option linter.unusedVariables false
set_option maxHeartbeats 6400000
set_option maxRecDepth 100000
namespace Go.Proofs.YtbakanofkghmiaaGreat
open Go.RowKit
theorem Tryz.infoCmdD:(Tryz.prog.info? 43).map (fun i=>(i.zero,i.size,i.bytes)) = some (some (.agg (yw 0 0 0 0 0 0 0 ⟨#[]⟩).toArray),8,72):=by kernel_rfl
theorem cells_srcD (w:World) (cs:List Value) (t:TypeId) (j:Nat) (u:Value) (h:cs[j]? = some u):(w.alloc (Obj.cells cs.toArray t)).cell? (((yq w 0):Addr).add j) = some u:=by
 rw [Addr.add_mid,cell_of_row _ w.heap.size (0 + j) cs.toArray t (0,0) (heap_alloc_new w _)]
 simpa using h
theorem gr_newD {w wr w2:World} {B:Nat} {row:Option Nat} (h:w.grownBy wr (some B)) (hg:wr.grownBy w2 row) (hr:∀ k,row = some k→w.heap.size ≤ k):w.grownBy w2 (some B) :=
 ⟨hg.os.trans h.os,hg.tape.trans h.tape,hg.output.trans h.output,yN h.size hg.size,
  fun i hi xB=>(hg.block i (yJ hi h.size) (fun e=>by have:=hr i e.symm; omega)).trans (h.block i hi xB)⟩
theorem dO {W:World} {B e z n:Nat} {v:Value} {xs:List Value} (h:W.ownsRow B e z v n xs):∃ a A,v = .slice a n A:=by
 rcases h.2 with ⟨G,E⟩ | ⟨g,A,xr,G,_⟩
 ·exact ⟨none,0,by rw [G,E]⟩
 ·exact ⟨_,_,G⟩
theorem own_baseD {W:World} {B B' e z n:Nat} {v:Value} {xs:List Value} (h:W.ownsRow B e z v n xs) (hB:B' ≤ B):W.ownsRow B' e z v n xs:=by
 refine ⟨h.1,?_⟩
 rcases h.2 with h | ⟨g,A,xr,G,E,h3⟩
 ·exact .inl h
 ·exact .inr ⟨g,A,xr,G,yN hB E,h3⟩
theorem prW_eq {y z:Nat} (h:PEq y z) (hz:PrW z):PrW y:=by
 rcases h with rfl | ⟨G,-⟩
 ·exact hz
 ·exact prW_nan G
theorem flt_prW (k:Nat):PrW (fltL.getD k 0):=by
 by_cases h:k < 15
 ·rcases (show k = 0 ∨ k = 1 ∨ k = 2 ∨ k = 3 ∨ k = 4 ∨ k = 5 ∨ k = 6 ∨ k = 7 ∨ k = 8 ∨ k = 9 ∨ k = 10 ∨ k = 11 ∨ k = 12 ∨ k = 13 ∨ k = 14 by omega) with rfl | rfl | rfl | rfl | rfl | rfl | rfl | rfl | rfl | rfl | rfl | rfl | rfl | rfl | rfl
  all_goals exact prW_of (by kernel_rfl)
 ·rw [List.getD_eq_getElem?_getD,List.getElem?_eq_none (by show 15 ≤ k; omega)]
  exact prW_of (by kernel_rfl)
theorem prl_prW (k:Nat):PrW (prL.getD k 0):=by
 by_cases h:k < 9
 ·rcases (show k = 0 ∨ k = 1 ∨ k = 2 ∨ k = 3 ∨ k = 4 ∨ k = 5 ∨ k = 6 ∨ k = 7 ∨ k = 8 by omega) with rfl | rfl | rfl | rfl | rfl | rfl | rfl | rfl | rfl
  all_goals exact prW_of (by kernel_rfl)
 ·rw [List.getD_eq_getElem?_getD,List.getElem?_eq_none (by show 9 ≤ k; omega)]
  exact prW_of (by kernel_rfl)
theorem getD_len {ts:List ByteArray} (h:∀ s ∈ ts,s.size ≤ 20) (k:Nat):(ts.getD k ⟨#[]⟩).size ≤ 20:=by
 rw [List.getD_eq_getElem?_getD]
 cases e:ts[k]? with
 | none=>exact Nat.zero_le _
 | some s=>exact h s (yO e)
theorem drOk_eq {c d:Cm} (h:CmEq c d) (hd:DrOk d):DrOk c:=⟨by rw [h.g]; exact hd.1,prW_eq h.p hd.2⟩
theorem cmdF_ok (l:List Int) (ids:Int) (s:Sr):DrOk (cmdF l ids s).1:=by
 have z:PrW 0:=prW_of (by kernel_rfl)
 rw [cmdF]
 split
 ·exact ⟨getD_len tags8_len _,flt_prW _⟩
 ·split
  ·exact ⟨Nat.zero_le _,z⟩
  ·split
   ·exact ⟨Nat.zero_le _,z⟩
   ·split
    ·exact ⟨Nat.zero_le _,z⟩
    ·refine ⟨getD_len tag3_len _,?_⟩
     show PrW (cpF _ _ _).1
     rw [cpF]
     split
     ·exact z
     ·exact prl_prW _
def CsEq:List Cm→List Cm→Prop
 | [],[]=>True
 | c :: cs,d :: ds=>CmEq c d∧CsEq cs ds
 | _,_=>False
theorem csEq_len:∀ {cs ds:List Cm},CsEq cs ds→cs.length = ds.length
 | [],[],_=>rfl
 | _ :: _,_ :: _,h=>by simpa using csEq_len h.2
 | [],_ :: _,h=>h.elim
 | _ :: _,[],h=>h.elim
theorem csEq_snoc:∀ {cs ds:List Cm} {c d:Cm},CsEq cs ds→CmEq c d→CsEq (cs ++ [c]) (ds ++ [d])
 | [],[],_,_,_,e=>⟨e,True.intro⟩
 | _ :: _,_ :: _,_,_,h,e=>⟨h.1,csEq_snoc h.2 e⟩
 | [],_ :: _,_,_,h,_=>h.elim
 | _ :: _,[],_,_,h,_=>h.elim
theorem scrF_ok (l:List Int):∀ (n k:Nat) (s:Sr),∀ c ∈ (scrF l n k s).1,DrOk c
 | 0,_,_,_,h=>nomatch h
 | n + 1,k,s,c,h=>by
  rw [scrF] at h
  rcases List.mem_cons.1 h with rfl | h
  ·exact cmdF_ok l k s
  ·exact scrF_ok l n (k + 1) _ c h
theorem scrF_len (l:List Int):∀ (n k:Nat) (s:Sr),(scrF l n k s).1.length = n
 | 0,_,_=>rfl
 | n + 1,k,s=>by rw [scrF]; simpa using scrF_len l n (k + 1) _
theorem csEq_ok:∀ {cs ds:List Cm},CsEq cs ds→(∀ d ∈ ds,DrOk d)→∀ c ∈ cs,DrOk c
 | [],[],_,_,_,h=>nomatch h
 | _ :: _,d :: ds,h,hd,c,hc=>by
  rcases List.mem_cons.1 hc with rfl | hc
  ·exact drOk_eq h.1 (hd d (by simp))
  ·exact csEq_ok h.2 (fun x hx=>hd x (by simp [hx])) c hc
 | [],_ :: _,h,_,_,_=>h.elim
 | _ :: _,[],h,_,_,_=>h.elim
def scS (l:List Int) (s:Sr):List Cm:=(scrF l (nxF l (szF l 24 + 4) s).1.toNat 0 (nxF l (szF l 24 + 4) s).2).1
def scD (l:List Int):List Cm:=scS l ⟨0,(l.length:Int) % 1000⟩
theorem szF_bd (l:List Int):1 ≤ szF l 24∧szF l 24 ≤ 24:=by
 rw [szF]; split <;> omega
theorem scS_ok (l:List Int) (s:Sr):(∀ c ∈ scS l s,DrOk c)∧(scS l s).length ≤ 27:=by
 refine ⟨scrF_ok l _ _ _,?_⟩
 rw [scS,scrF_len]
 have:=szF_bd l
 have:=nx_bd (l:=l) (n:=szF l 24 + 4) (s:=s) (by omega)
 omega
theorem srX_keep {B:Nat} {w w':World} {v:Value} {l:List Int} {s:Sr} {h1:Option Nat} (h:SrX B w v l s) (hg:w.grownBy w' h1) (hB:some B ≠ h1) (hv:l ≠ []→v.ownBlock ≠ h1):SrX B w' v l s:=by
 have F:=hg.block B (cn h.src) hB
 have e:∀ i,w'.cell? ⟨B,i,none⟩ = w.cell? ⟨B,i,none⟩:=fun i=>yQ (a:=⟨B,i,none⟩) F
 exact ⟨src_keep h.src hg hB hv,h.a0,h.s0,h.s1,(e 1).trans h.c1,(e 2).trans h.c2⟩
set_option maxRecDepth 100000 in
set_option maxHeartbeats 3200000 in
theorem script_ex (B:Nat) (v:Value) (l:List Int) (s:Sr) (w:World) (h:SrX B w v l s) (hm:s.at_ ≤ 1000000) :
  Calls Tryz.prog 30 #[.pointer (some ⟨B,0,none⟩)] w fun e w'=>∃ (o:Value) (cs:List Cm),e = .returned o∧CsEq cs (scS l s)∧w'.ownsRow w.heap.size 43 8 o cs.length (cs.flatMap Cm.vs)∧w.grownBy w' (some B):=by
 obtain ⟨i0,hi,uF,uJ,uQ⟩:=info_parts Tryz.infoCmdD
 have uG:=hide (show scS l s = (scrF l (nxF l (szF l 24 + 4) s).1.toNat 0 (nxF l (szF l 24 + 4) s).2).1 from rfl)
 have HLN:=hide (scS_ok l s).2
 generalize scS l s = eG at uG HLN ⊢
 have HSZ:=hide (fun W hW=>size_ex B v l 24 s W hW)
 obtain ⟨pY,hy1⟩:=szF_bd l
 generalize szF l 24 = y at HSZ uG pY hy1
 have qb:=hide (fun W hW=>bj B v l (y + 4) s W hW (by omega) (by omega) (by omega))
 have hat:=aQ l (y + 4) s
 obtain ⟨jj,hj1⟩:=nx_bd (l:=l) (n:=y + 4) (s:=s) (by omega)
 generalize nxF l (y + 4) s = R at qb hat jj hj1 uG
 obtain ⟨j0,s1⟩:=R
 simp only at qb hat jj hj1 uG
 have HV:=hide (src_far h.src)
 have HS:=hide h
 have hB:=cn h.src
 clear h
 go_enter Tryz.func30,Tryz.ntmps30
 go_wp2_with fail
 refine (U HSZ _ (bW (cN (U HS)) _).1).mono ?_
 rintro e w1 ⟨rfl,rfl⟩
 have hwr:IntKind.i64.wrap (y + 4) = y + 4:=by rw [IntKind.wrap_i64]; omega
 go_wp2_with fail
 refine (U qb _ (bW (cN (U HS)) _).1).mono ?_
 rintro e w1 ⟨rfl,hE⟩
 have HE:=hide (show SrXE B w v l s1 w1 from ⟨hE.1,zY (bN w _ _) hE.2⟩)
 have HO:=hide ((World.ownsRow_made (base:=w.heap.size) (e:=43) (size:=8) w #[] 0 (Nat.le_refl _) (by decide) rfl).kept hE.2 (.inr (by simp [Value.ownBlock]; omega)))
 clear hE HSZ qb
 go_wp2_with fail
 go_loopw [3,4] (fun ov iv wr=>∃ (cs ds:List Cm) (j:Nat) (st:Sr),iv = .int .i64 j∧cs.length + j ≤ 27∧CsEq cs ds∧eG = ds ++ (scrF l j cs.length st).1∧st.at_ ≤ 1000003 + 30 * cs.length∧wr.ownsRow w.heap.size 43 8 ov cs.length (cs.flatMap Cm.vs)∧SrX B wr v l st∧w.grownBy wr (some B)) (fun _ iv _=>(intOf iv).toNat)
 case atStart =>
  obtain ⟨j,rfl⟩:=Int.eq_ofNat_of_zero_le jj
  exact ⟨[],[],j,s1,rfl,by simp; omega,True.intro,by rw [U uG,Int.toNat_natCast]; rfl,by simp; omega,U HO,(U HE).1,(U HE).2⟩
 case round =>
  obtain ⟨cs,ds,j,st,rfl,xE,hxs,hds,hat2,xN,hsrc,uk⟩:=hrel
  have HX:=hide hxs
  have HDS:=hide hds
  have HOW:=hide xN
  have HSR:=hide hsrc
  have ph:=hide uk
  have xB:Hid (∀ k,k < w.heap.size→u3.ownBlock ≠ some k):=fun k hk e=>by have:=(xN.lt k e).1; omega
  obtain ⟨ao,co,rfl⟩:=dO xN
  clear hxs xN hsrc uk hds HE HO uG HS
  by_cases K:j = 0
  ·subst K
   have HDE:Hid (CsEq cs eG):=by rw [show eG = ds by rw [U HDS,scrF]; simp]; exact U HX
   clear HDS
   go_wp2_with fail
   go_ret
   exact ⟨_,cs,rfl,U HDE,U HOW,U ph⟩
  have hj':(0:Int) < j:=by omega
  clear K
  go_wp2_with fail
  refine (cmd_ex B v l cs.length st _ (U HSR) (by omega) (by omega) (by omega)).mono ?_
  rintro e w3 ⟨⟨ck,c1,ct,cl,cq,ci,cp,cg⟩,rfl,hcg,hE3⟩
  have HE3:=hide hE3
  have qQ:=hide ((U HOW).kept hE3.2 (.inr (U xB B hB)))
  have HCG:Hid (CmEq ⟨ck,c1,ct,cl,cq,ci,cp,cg⟩ (cmdF l cs.length st).1):=hcg
  clear hE3 hcg
  unfold Cm.vs
  simp only
  have jt:w.heap.size ≤ w3.heap.size:=yN (U ph).size (U HE3).2.size
  go_wp2_with (at_builtin; go_must (refine wpList_append_own _ rfl _ _ 23 rfl w.heap.size 43 i0 _ 8 72 Tryz.underlying23 hi uF uJ uQ rfl (by decide) _ cs.length (cs.flatMap Cm.vs) rfl ((U qQ).alloc _) ⟨w3.heap.size,0,none⟩ 1 1 (Cm.vs ⟨ck,c1,ct,cl,cq,ci,cp,cg⟩) rfl rfl (cells_srcD w3 _ _) (by simp [Value.oneCell',Cm.vs]) (by unfold maxLen; omega) (by omega) (by simp; omega) ?_); intro v4 w4 js hg4 _)
  go_roundw
  case rel =>
   have ha:=cmd_at l cs.length st
   refine ⟨cs ++ [⟨ck,c1,ct,cl,cq,ci,cp,cg⟩],ds ++ [(cmdF l cs.length st).1],j - 1,(cmdF l cs.length st).2,by go_num,by simp; omega,csEq_snoc (U HX) (U HCG),?_,by simp; omega,by simpa using js,?_,?_⟩
   ·rw [U HDS]
    obtain ⟨i,rfl⟩:∃ i,j = i + 1:=⟨j - 1,by omega⟩
    rw [scrF]
    simp
   ·refine srX_keep (bW (cN (U HE3).1) _).1 hg4 (fun e=>U xB B hB e.symm) (fun hn e=>?_)
    obtain ⟨k,G,E⟩:=U HV hn
    exact U xB k E (e ▸ G)
   ·exact gr_newD (zY (zY (U ph) (U HE3).2) (bN w3 _ _)) hg4 (fun k hk=>((U qQ).lt k hk).1)
  case measure=>simp [intOf]; omega
theorem source_ex (v:Value) (l:List Int) (w:World) (h:Rd w v l) (F:Bts l) :
  Calls Tryz.prog 29 #[v] w fun e w'=>e = .returned (.pointer (some ⟨w.heap.size,0,none⟩))∧SrX w.heap.size w' v l ⟨0,(l.length:Int) % 1000⟩∧Below w.heap.size w w':=by
 have HR:=hide h
 have HB:=hide F
 have HV:=hide (fun xB=>rd_new h xB)
 obtain ⟨a,A,rfl,hl,_⟩:=h
 clear F
 go_enter Tryz.func29,Tryz.ntmps29
 go_wp2_with fail
 go_ret
 refine ⟨rfl,⟨⟨rd_grown (U HR) (bN w _ _) (U HV),U HV,U HB,cell_of_row _ _ _ _ _ (0,0) (heap_alloc_new w _),⟨0,(l.length:Int) % 1000,by omega,by show (0:Int) ≤ 0; omega,by omega,by omega,cell_of_row _ _ _ _ _ (0,0) (heap_alloc_new w _),cell_of_row _ _ _ _ _ (0,0) (heap_alloc_new w _)⟩,?_,?_⟩,by show (0:Int) ≤ 0; omega,by show 0 ≤ (l.length:Int) % 1000; omega,by show (l.length:Int) % 1000 < 2147483648; omega,cell_of_row _ _ _ _ _ (0,0) (heap_alloc_new w _),cell_of_row _ _ _ _ _ (0,0) (heap_alloc_new w _)⟩,(Below.refl _ w).alloc (Nat.le_refl _) _⟩
 all_goals
  unfold World.frozen?
  rw [heap_alloc_new]
  simp
theorem scriptOf_ex (v:Value) (l:List Int) (w:World) (h:Rd w v l) (F:Bts l) :
  Calls Tryz.prog 9 #[v] w fun e w'=>∃ (o:Value) (cs:List Cm),e = .returned o∧CsEq cs (scD l)∧w'.ownsRow w.heap.size 43 8 o cs.length (cs.flatMap Cm.vs)∧Below w.heap.size w w':=by
 have HR:=hide h
 have HB:=hide F
 obtain ⟨a,A,rfl,hl,_⟩:=h
 clear F
 go_enter Tryz.func9,Tryz.ntmps9
 go_wp2_with fail
 refine (source_ex _ l _ (U HR) (U HB)).mono ?_
 rintro e w1 ⟨rfl,hS,xW⟩
 have HS:=hide hS
 have xU:=hide xW
 clear hS xW
 go_wp2_with fail
 refine (script_ex _ _ l _ _ (U HS) (by show (0:Int) ≤ 1000000; omega)).mono ?_
 rintro e w2 ⟨o,cs,rfl,G,h3,hE⟩
 have HX:=hide G
 have HO:=hide h3
 have HE:=hide hE
 clear hE G h3
 go_wp2_with fail
 go_ret
 exact ⟨_,cs,rfl,U HX,own_baseD (U HO) (U xU).size,own_below_grown (U xU) (Nat.le_refl _) (U HE)⟩

end Go.Proofs.YtbakanofkghmiaaGreat
