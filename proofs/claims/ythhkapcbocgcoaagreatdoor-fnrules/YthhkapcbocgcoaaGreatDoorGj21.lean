/-
  A script of commands drawn out of the source, and out of a code: proved by walking the functions.
-/
import Derived.Test.YthhkapcbocgcoaaGreatDoorGj20
set_option linter.unusedVariables false
set_option maxHeartbeats 6400000
set_option maxRecDepth 100000
namespace Go.Proofs.YthhkapcbocgcoaaGreatDoor
open Go.RowKit
theorem Tryz.infoCmdD:(Tryz.prog.info? 33).map (fun i=>(i.zero,i.size,i.bytes)) = some (some (.agg (yx 0 0 0 0 0 0 0 ⟨#[]⟩).toArray),8,72):=by kernel_rfl
theorem cells_srcD (w:World) (cs:List Value) (t:TypeId) (j:Nat) (u:Value) (h:cs[j]? = some u):(w.alloc (Obj.cells cs.toArray t)).cell? (((yq w 0):Addr).add j) = some u:=by
 rw [Addr.add_mid,cell_of_row _ w.heap.size (0 + j) cs.toArray t (0,0) (heap_alloc_new w _)]
 simpa using h
theorem gr_newD {w wr w2:World} {B:Nat} {row:Option Nat} (h:w.grownBy wr (some B)) (hg:wr.grownBy w2 row) (hr:∀ k,row = some k→w.heap.size ≤ k):w.grownBy w2 (some B) :=
 ⟨hg.os.trans h.os,hg.tape.trans h.tape,hg.output.trans h.output,yO h.size hg.size,
  fun i hi xC=>(hg.block i (yK hi h.size) (fun e=>by have:=hr i e.symm; omega)).trans (h.block i hi xC)⟩
theorem own_sliceD {W:World} {B e z n:Nat} {v:Value} {xs:List Value} (h:W.ownsRow B e z v n xs):∃ a cap,v = .slice a n cap:=by
 rcases h.2 with ⟨Q,D⟩ | ⟨g,cap,xz,Q,_⟩
 ·exact ⟨none,0,by rw [Q,D]⟩
 ·exact ⟨_,_,Q⟩
theorem own_baseD {W:World} {B B' e z n:Nat} {v:Value} {xs:List Value} (h:W.ownsRow B e z v n xs) (hB:B' ≤ B):W.ownsRow B' e z v n xs:=by
 refine ⟨h.1,?_⟩
 rcases h.2 with h | ⟨g,cap,xz,Q,D,X⟩
 ·exact .inl h
 ·exact .inr ⟨g,cap,xz,Q,yO hB D,X⟩
theorem prW_eq {y z:Nat} (h:PEq y z) (hz:PrW z):PrW y:=by
 rcases h with rfl | ⟨Q,-⟩
 ·exact hz
 ·exact prW_nan Q
theorem flt_prW (k:Nat):PrW (fltL.getD k 0):=by
 by_cases h:k < 15
 ·rcases (show k = 0 ∨ k = 1 ∨ k = 2 ∨ k = 3 ∨ k = 4 ∨ k = 5 ∨ k = 6 ∨ k = 7 ∨ k = 8 ∨ k = 9 ∨ k = 10 ∨ k = 11 ∨ k = 12 ∨ k = 13 ∨ k = 14 by omega) with rfl | rfl | rfl | rfl | rfl | rfl | rfl | rfl | rfl | rfl | rfl | rfl | rfl | rfl | rfl
  all_goals exact prW_of (by kernel_rfl)
 ·rw [List.getD_eq_getElem?_getD,List.getElem?_eq_none (by show 15 ≤ k; omega)]
  exact prW_of (by kernel_rfl)
theorem prl_prW (k:Nat):PrW (prL.getD k 0):=by
 by_cases h:k < 9
 ·rcases (show k = 0 ∨ k = 1 ∨ k = 2 ∨ k = 3 ∨ k = 4 ∨ k = 5 ∨ k = 6 ∨ k = 7 ∨ k = 8 by omega) with rfl | rfl | rfl | rfl | rfl | rfl | rfl | rfl | rfl
  all_goals exact prW_of (by kernel_rfl)
 ·rw [List.getD_eq_getElem?_getD,List.getElem?_eq_none (by show 9 ≤ k; omega)]
  exact prW_of (by kernel_rfl)
theorem getD_len {ts:List ByteArray} (h:∀ s ∈ ts,s.size ≤ 20) (k:Nat):(ts.getD k ⟨#[]⟩).size ≤ 20:=by
 rw [List.getD_eq_getElem?_getD]
 cases e:ts[k]? with
 | none=>exact Nat.zero_le _
 | some s=>exact h s (yP e)
theorem drOk_eq {c d:Cm} (h:CmEq c d) (hd:DrOk d):DrOk c:=⟨by rw [h.g]; exact hd.1,prW_eq h.p hd.2⟩
theorem cmdF_ok (l:List Int) (ids:Int) (s:Sr):DrOk (cmdF l ids s).1:=by
 have z:PrW 0:=prW_of (by kernel_rfl)
 rw [cmdF]
 split
 ·exact ⟨getD_len tags8_len _,flt_prW _⟩
 ·split
  ·exact ⟨Nat.zero_le _,z⟩
  ·split
   ·exact ⟨Nat.zero_le _,z⟩
   ·split
    ·exact ⟨Nat.zero_le _,z⟩
    ·refine ⟨getD_len tag3_len _,?_⟩
     show PrW (cpF _ _ _).1
     rw [cpF]
     split
     ·exact z
     ·exact prl_prW _
def CsEq:List Cm→List Cm→Prop
 | [],[]=>True
 | c :: cs,d :: ds=>CmEq c d∧CsEq cs ds
 | _,_=>False
theorem csEq_len:∀ {cs ds:List Cm},CsEq cs ds→cs.length = ds.length
 | [],[],_=>rfl
 | _ :: _,_ :: _,h=>by simpa using csEq_len h.2
 | [],_ :: _,h=>h.elim
 | _ :: _,[],h=>h.elim
theorem csEq_snoc:∀ {cs ds:List Cm} {c d:Cm},CsEq cs ds→CmEq c d→CsEq (cs ++ [c]) (ds ++ [d])
 | [],[],_,_,_,e=>⟨e,True.intro⟩
 | _ :: _,_ :: _,_,_,h,e=>⟨h.1,csEq_snoc h.2 e⟩
 | [],_ :: _,_,_,h,_=>h.elim
 | _ :: _,[],_,_,h,_=>h.elim
theorem scrF_ok (l:List Int):∀ (n k:Nat) (s:Sr),∀ c ∈ (scrF l n k s).1,DrOk c
 | 0,_,_,_,h=>nomatch h
 | n + 1,k,s,c,h=>by
  rw [scrF] at h
  rcases List.mem_cons.1 h with rfl | h
  ·exact cmdF_ok l k s
  ·exact scrF_ok l n (k + 1) _ c h
theorem scrF_len (l:List Int):∀ (n k:Nat) (s:Sr),(scrF l n k s).1.length = n
 | 0,_,_=>rfl
 | n + 1,k,s=>by rw [scrF]; simpa using scrF_len l n (k + 1) _
theorem csEq_ok:∀ {cs ds:List Cm},CsEq cs ds→(∀ d ∈ ds,DrOk d)→∀ c ∈ cs,DrOk c
 | [],[],_,_,_,h=>nomatch h
 | _ :: _,d :: ds,h,hd,c,hc=>by
  rcases List.mem_cons.1 hc with rfl | hc
  ·exact drOk_eq h.1 (hd d (by simp))
  ·exact csEq_ok h.2 (fun x hx=>hd x (by simp [hx])) c hc
 | [],_ :: _,h,_,_,_=>h.elim
 | _ :: _,[],h,_,_,_=>h.elim
def scS (l:List Int) (s:Sr):List Cm:=(scrF l (nxF l (szF l 24 + 4) s).1.toNat 0 (nxF l (szF l 24 + 4) s).2).1
def scD (l:List Int):List Cm:=scS l ⟨0,(l.length:Int) % 1000⟩
theorem szF_bd (l:List Int):1 ≤ szF l 24∧szF l 24 ≤ 24:=by
 rw [szF]; split <;> omega
theorem scS_ok (l:List Int) (s:Sr):(∀ c ∈ scS l s,DrOk c)∧(scS l s).length ≤ 27:=by
 refine ⟨scrF_ok l _ _ _,?_⟩
 rw [scS,scrF_len]
 have:=szF_bd l
 have:=cZ (l:=l) (n:=szF l 24 + 4) (s:=s) (by omega)
 omega
theorem srX_keep {B:Nat} {w w':World} {v:Value} {l:List Int} {s:Sr} {G:Option Nat} (h:SrX B w v l s) (hg:w.grownBy w' G) (hB:some B ≠ G) (hv:l ≠ []→v.ownBlock ≠ G):SrX B w' v l s:=by
 have A:=hg.block B (dW h.src) hB
 have e:∀ i,w'.cell? ⟨B,i,none⟩ = w.cell? ⟨B,i,none⟩:=fun i=>yR (a:=⟨B,i,none⟩) A
 exact ⟨src_keep h.src hg hB hv,h.a0,h.s0,h.s1,(e 1).trans h.c1,(e 2).trans h.c2⟩
set_option maxRecDepth 100000 in
set_option maxHeartbeats 3200000 in
theorem script_ex (B:Nat) (v:Value) (l:List Int) (s:Sr) (w:World) (h:SrX B w v l s) (hm:s.at_ ≤ 1000000) :
  Calls Tryz.prog 14 #[.pointer (some ⟨B,0,none⟩)] w fun e w'=>∃ (o:Value) (cs:List Cm),e = .returned o∧CsEq cs (scS l s)∧w'.ownsRow w.heap.size 33 8 o cs.length (cs.flatMap Cm.vs)∧w.grownBy w' (some B):=by
 obtain ⟨i0,hi,uD,uz,uM⟩:=info_parts Tryz.infoCmdD
 have uw:=hide (show scS l s = (scrF l (nxF l (szF l 24 + 4) s).1.toNat 0 (nxF l (szF l 24 + 4) s).2).1 from rfl)
 have HLN:=hide (scS_ok l s).2
 generalize scS l s = h2 at uw HLN ⊢
 have HSZ:=hide (fun W hW=>size_ex B v l 24 s W hW)
 obtain ⟨bh,hy1⟩:=szF_bd l
 generalize szF l 24 = y at HSZ uw bh hy1
 have oZ:=hide (fun W hW=>cJ B v l (y + 4) s W hW (by omega) (by omega) (by omega))
 have hat:=bU l (y + 4) s
 obtain ⟨jM,hj1⟩:=cZ (l:=l) (n:=y + 4) (s:=s) (by omega)
 generalize nxF l (y + 4) s = R at oZ hat jM hj1 uw
 obtain ⟨j0,s1⟩:=R
 simp only at oZ hat jM hj1 uw
 have HV:=hide (src_far h.src)
 have HS:=hide h
 have hB:=dW h.src
 clear h
 go_enter Tryz.func14,Tryz.ntmps14
 go_wp2_with fail
 refine (U HSZ _ (dO (ew (U HS)) _).1).mono ?_
 rintro e w1 ⟨rfl,rfl⟩
 have bd:IntKind.i64.wrap (y + 4) = y + 4:=by rw [IntKind.wrap_i64]; omega
 go_wp2_with fail
 refine (U oZ _ (dO (ew (U HS)) _).1).mono ?_
 rintro e w1 ⟨rfl,hE⟩
 have HE:=hide (show SrXE B w v l s1 w1 from ⟨hE.1,zA (dF w _ _) hE.2⟩)
 have HO:=hide ((World.ownsRow_made (base:=w.heap.size) (e:=33) (size:=8) w #[] 0 (Nat.le_refl _) (by decide) rfl).kept hE.2 (.inr (by simp [Value.ownBlock]; omega)))
 clear hE HSZ oZ
 go_wp2_with fail
 go_loopw [3,4] (fun ov iv wr=>∃ (cs ds:List Cm) (j:Nat) (st:Sr),iv = .int .i64 j∧cs.length + j ≤ 27∧CsEq cs ds∧h2 = ds ++ (scrF l j cs.length st).1∧st.at_ ≤ 1000003 + 30 * cs.length∧wr.ownsRow w.heap.size 33 8 ov cs.length (cs.flatMap Cm.vs)∧SrX B wr v l st∧w.grownBy wr (some B)) (fun _ iv _=>(intOf iv).toNat)
 case atStart =>
  obtain ⟨j,rfl⟩:=Int.eq_ofNat_of_zero_le jM
  exact ⟨[],[],j,s1,rfl,by simp; omega,True.intro,by rw [U uw,Int.toNat_natCast]; rfl,by simp; omega,U HO,(U HE).1,(U HE).2⟩
 case round =>
  obtain ⟨cs,ds,j,st,rfl,xD,hxs,hds,hat2,xS,hsrc,uZ⟩:=hrel
  have HX:=hide hxs
  have HDS:=hide hds
  have HOW:=hide xS
  have HSR:=hide hsrc
  have HGR:=hide uZ
  have xC:Hid (∀ k,k < w.heap.size→u3.ownBlock ≠ some k):=fun k E e=>by have:=(xS.lt k e).1; omega
  obtain ⟨ao,co,rfl⟩:=own_sliceD xS
  clear hxs xS hsrc uZ hds HE HO uw HS
  by_cases hj:j = 0
  ·subst hj
   have HDE:Hid (CsEq cs h2):=by rw [show h2 = ds by rw [U HDS,scrF]; simp]; exact U HX
   clear HDS
   go_wp2_with fail
   go_ret
   exact ⟨_,cs,rfl,U HDE,U HOW,U HGR⟩
  have hj':(0:Int) < j:=by omega
  clear hj
  go_wp2_with fail
  refine (cmd_ex B v l cs.length st _ (U HSR) (by omega) (by omega) (by omega)).mono ?_
  rintro e w3 ⟨⟨ck,c1,ct,cl,cq,ci,cp,cg⟩,rfl,hcg,hE3⟩
  have pB:=hide hE3
  have qW:=hide ((U HOW).kept hE3.2 (.inr (U xC B hB)))
  have HCG:Hid (CmEq ⟨ck,c1,ct,cl,cq,ci,cp,cg⟩ (cmdF l cs.length st).1):=hcg
  clear hE3 hcg
  unfold Cm.vs
  simp only
  have jZ:w.heap.size ≤ w3.heap.size:=yO (U HGR).size (U pB).2.size
  go_wp2_with (at_builtin; go_must (refine wpList_append_own _ rfl _ _ 23 rfl w.heap.size 33 i0 _ 8 72 Tryz.underlying23 hi uD uz uM rfl (by decide) _ cs.length (cs.flatMap Cm.vs) rfl ((U qW).alloc _) ⟨w3.heap.size,0,none⟩ 1 1 (Cm.vs ⟨ck,c1,ct,cl,cq,ci,cp,cg⟩) rfl rfl (cells_srcD w3 _ _) (by simp [Value.oneCell',Cm.vs]) (by unfold maxLen; omega) (by omega) (by simp; omega) ?_); intro v4 w4 jD jt _)
  go_roundw
  case rel =>
   have ha:=cmd_at l cs.length st
   refine ⟨cs ++ [⟨ck,c1,ct,cl,cq,ci,cp,cg⟩],ds ++ [(cmdF l cs.length st).1],j - 1,(cmdF l cs.length st).2,by go_num,by simp; omega,csEq_snoc (U HX) (U HCG),?_,by simp; omega,by simpa using jD,?_,?_⟩
   ·rw [U HDS]
    obtain ⟨i,rfl⟩:∃ i,j = i + 1:=⟨j - 1,by omega⟩
    rw [scrF]
    simp
   ·refine srX_keep (dO (ew (U pB).1) _).1 jt (fun e=>U xC B hB e.symm) (fun hn e=>?_)
    obtain ⟨k,Q,D⟩:=U HV hn
    exact U xC k D (e ▸ Q)
   ·exact gr_newD (zA (zA (U HGR) (U pB).2) (dF w3 _ _)) jt (fun k E=>((U qW).lt k E).1)
  case measure=>simp [intOf]; omega
theorem source_ex (v:Value) (l:List Int) (w:World) (h:Rd w v l) (A:Bts l) :
  Calls Tryz.prog 13 #[v] w fun e w'=>e = .returned (.pointer (some ⟨w.heap.size,0,none⟩))∧SrX w.heap.size w' v l ⟨0,(l.length:Int) % 1000⟩∧Below w.heap.size w w':=by
 have HR:=hide h
 have HB:=hide A
 have HV:=hide (fun xC=>rd_new h xC)
 obtain ⟨a,cap,rfl,hl,_⟩:=h
 clear A
 go_enter Tryz.func13,Tryz.ntmps13
 go_wp2_with fail
 go_ret
 refine ⟨rfl,⟨⟨rd_grown (U HR) (dF w _ _) (U HV),U HV,U HB,cell_of_row _ _ _ _ _ (0,0) (heap_alloc_new w _),⟨0,(l.length:Int) % 1000,by omega,by show (0:Int) ≤ 0; omega,by omega,by omega,cell_of_row _ _ _ _ _ (0,0) (heap_alloc_new w _),cell_of_row _ _ _ _ _ (0,0) (heap_alloc_new w _)⟩,?_,?_⟩,by show (0:Int) ≤ 0; omega,by show 0 ≤ (l.length:Int) % 1000; omega,by show (l.length:Int) % 1000 < 2147483648; omega,cell_of_row _ _ _ _ _ (0,0) (heap_alloc_new w _),cell_of_row _ _ _ _ _ (0,0) (heap_alloc_new w _)⟩,(Below.refl _ w).alloc (Nat.le_refl _) _⟩
 all_goals
  unfold World.frozen?
  rw [heap_alloc_new]
  simp
theorem scriptOf_ex (v:Value) (l:List Int) (w:World) (h:Rd w v l) (A:Bts l) :
  Calls Tryz.prog 5 #[v] w fun e w'=>∃ (o:Value) (cs:List Cm),e = .returned o∧CsEq cs (scD l)∧w'.ownsRow w.heap.size 33 8 o cs.length (cs.flatMap Cm.vs)∧Below w.heap.size w w':=by
 have HR:=hide h
 have HB:=hide A
 obtain ⟨a,cap,rfl,hl,_⟩:=h
 clear A
 go_enter Tryz.func5,Tryz.ntmps5
 go_wp2_with fail
 refine (source_ex _ l _ (U HR) (U HB)).mono ?_
 rintro e w1 ⟨rfl,hS,ub⟩
 have HS:=hide hS
 have xU:=hide ub
 clear hS ub
 go_wp2_with fail
 refine (script_ex _ _ l _ _ (U HS) (by show (0:Int) ≤ 1000000; omega)).mono ?_
 rintro e w2 ⟨o,cs,rfl,Q,X,hE⟩
 have HX:=hide Q
 have HO:=hide X
 have HE:=hide hE
 clear hE Q X
 go_wp2_with fail
 go_ret
 exact ⟨_,cs,rfl,U HX,own_baseD (U HO) (U xU).size,own_below_grown (U xU) (Nat.le_refl _) (U HE)⟩
structure Fc where
 n1:Nat
 n2:Nat
 l:Array Value
def Fc.vs (c:Fc):List Value:=[.func (.func c.n1) #[] c.l,.func (.func c.n2) #[] c.l]
theorem Fc.len (c:Fc):c.vs.length = 2:=rfl
def plcV (o:Nat):Nat:=match o with
 | 1=>136
 | 2=>127
 | 3=>128
 | 4=>129
 | 5=>130
 | 6=>137
 | 9=>135
 | 10=>139
 | 11=>140
 | 12=>141
 | 13=>138
 | _=>0
def FF (W:World) (B o:Nat) (c:Fc):Prop :=
 if o = 7 then c = ⟨131,132,#[]⟩ else if o = 8 then c = ⟨133,134,#[]⟩ else
  ∃ b,c = ⟨172,174,#[I b 0]⟩∧B ≤ b∧b < W.heap.size∧W.cell? (J b 0) = some (.func (.func (plcV o)) #[] #[])
theorem fH {B C o:Nat} {W W':World} {c:Fc} (h:FF W B o c) (A:Below C W W') (hC:W.heap.size ≤ C):FF W' B o c:=by
 unfold FF at h ⊢
 split
 ·rwa [if_pos ‹_›] at h
 ·rw [if_neg ‹_›] at h
  split
  ·rwa [if_pos ‹_›] at h
  ·rw [if_neg ‹_›] at h
   obtain ⟨b,Q,D,X,h4⟩:=h
   exact ⟨b,Q,D,yK X A.size,(A.cell (p:=(J b 0)) (yK X hC)).trans h4⟩
theorem ff_base {B B' o:Nat} {W:World} {c:Fc} (h:FF W B o c) (hB:B' ≤ B):FF W B' o c:=by
 unfold FF at h ⊢
 split
 ·rwa [if_pos ‹_›] at h
 ·rw [if_neg ‹_›] at h
  split
  ·rwa [if_pos ‹_›] at h
  ·rw [if_neg ‹_›] at h
   obtain ⟨b,Q,D,X,h4⟩:=h
   exact ⟨b,Q,yO hB D,X,h4⟩
def FEnd (o:Nat) (w:World) (e:Ending) (w':World):Prop:=∃ n1 n2 l,e = .returned (.agg #[.func (.func n1) #[] l,.func (.func n2) #[] l])∧FF w' w.heap.size o ⟨n1,n2,l⟩∧Below w.heap.size w w'
theorem sfn (a:Addr) (f:Nat) (l:Array Value) (m:Mode) (w:World):(store a (.func (.func f) #[] l) m).run Tryz.prog w = stored Tryz.prog w a (.func (.func f) #[] l) m:=run_store _ w a _ m rfl
theorem cell_other2 {W:World} {b c i j:Nat} {u v:Value} (h:c ≠ b):((W.setCell (J b i) u).setCell (J b j) v).cell? (J c 0) = W.cell? (J c 0):=by
 unfold World.cell?
 rw [yT _ _ _ _ h,yT _ _ _ _ h]
theorem numberField_any (p:Nat) (w:World) :
  Calls Tryz.prog 126 #[.func (.func p) #[] #[]] w fun e w'=>e = .returned (.agg #[.func (.func 172) #[] #[I w.heap.size 0],.func (.func 174) #[] #[I w.heap.size 0]])∧w.heap.size < w'.heap.size∧w'.cell? (J w.heap.size 0) = some (.func (.func p) #[] #[])∧Below w.heap.size w w':=by
 have hsfn:=sfn
 go_enter Tryz.func126,Tryz.ntmps126
 go_wp2
 go_returns
 refine ⟨rfl,by simp; omega,?_,by go_grown⟩
 rw [World.cell?_alloc_old _ _ _ (by show w.heap.size ≠ _; simp)]
 exact zb (zy w [.func (.func p) #[] #[]] _) 0 rfl
def fA (w:World):Value:=.func (.func 172) #[] #[I (w.heap.size + 1) 0]
def fB (w:World):Value:=.func (.func 174) #[] #[I (w.heap.size + 1) 0]
def fW (w W1:World):World:=(W1.setCell (J w.heap.size 0) (fA w)).setCell (J w.heap.size 1) (fB w)
theorem fld_end {o:Nat} (h7:¬ o = 7) (h8:¬ o = 8) {w W1:World} (A:Below w.heap.size w W1) (Q:w.heap.size + 1 < W1.heap.size) (D:W1.cell? (J (w.heap.size + 1) 0) = some (.func (.func (plcV o)) #[] #[])):FEnd o w (.returned (.agg #[fA w,fB w])) (fW w W1):=by
 refine ⟨_,_,_,rfl,?_,(A.setCell (p:=(J w.heap.size 0)) hU _).setCell (p:=(J w.heap.size 1)) hU _⟩
 unfold FF
 rw [if_neg h7,if_neg h8]
 refine ⟨w.heap.size + 1,rfl,by omega,by simpa [fW] using Q,?_⟩
 rw [fW,cell_other2 (by omega)]
 exact D
theorem dR (w:World):(Calls Tryz.prog 85 #[] w fun e w'=>FEnd 1 w e w')∧(Calls Tryz.prog 78 #[] w fun e w'=>FEnd 2 w e w')∧(Calls Tryz.prog 79 #[] w fun e w'=>FEnd 3 w e w')∧(Calls Tryz.prog 80 #[] w fun e w'=>FEnd 4 w e w')∧(Calls Tryz.prog 81 #[] w fun e w'=>FEnd 5 w e w')∧(Calls Tryz.prog 86 #[] w fun e w'=>FEnd 6 w e w')∧(Calls Tryz.prog 84 #[] w fun e w'=>FEnd 9 w e w')∧(Calls Tryz.prog 88 #[] w fun e w'=>FEnd 10 w e w')∧(Calls Tryz.prog 89 #[] w fun e w'=>FEnd 11 w e w')∧(Calls Tryz.prog 90 #[] w fun e w'=>FEnd 12 w e w')∧(Calls Tryz.prog 87 #[] w fun e w'=>FEnd 13 w e w'):=by
 refine ⟨?_,?_,?_,?_,?_,?_,?_,?_,?_,?_,?_⟩
 all_goals
  have hsfn:=sfn
  have HX:=M (zy w [.nilFunc,.nilFunc] 136)
  have HB:Hid (Below w.heap.size w (w.alloc (O #[.nilFunc,.nilFunc] 136))):=gZ _ _
  have hz:(w.alloc (O #[.nilFunc,.nilFunc] 136)).heap.size = w.heap.size + 1:=by simp
  first | go_enter Tryz.func85,Tryz.ntmps85 | go_enter Tryz.func78,Tryz.ntmps78 | go_enter Tryz.func79,Tryz.ntmps79 | go_enter Tryz.func80,Tryz.ntmps80 | go_enter Tryz.func81,Tryz.ntmps81 | go_enter Tryz.func86,Tryz.ntmps86 | go_enter Tryz.func84,Tryz.ntmps84 | go_enter Tryz.func88,Tryz.ntmps88 | go_enter Tryz.func89,Tryz.ntmps89 | go_enter Tryz.func90,Tryz.ntmps90 | go_enter Tryz.func87,Tryz.ntmps87
  go_wp2_with fail
  refine (numberField_any _ _).mono ?_
  rintro e W1 ⟨rfl,Q,D,X⟩
  have hx:=zl (U HX) X (by rw [show (w.alloc (Obj.cells [Value.nilFunc,Value.nilFunc].toArray 136)).heap.size = _ from hz]; omega)
  have xU:Hid (Below w.heap.size w W1):=(U HB).trans (X.mono (U HB).size)
  rw [hz] at Q D X ⊢
  have c0:=zb hx 0 rfl
  have c1:=zb hx 1 rfl
  have f0:=zd hx 0 (by decide)
  have f1:=zd hx 1 (by decide)
  have jq:=M hx
  have H12:=M (And.intro Q D)
  clear Q D X hx hz HX HB
  go_wp2_with fail
  have oK:=eh (j:=1) (u:=fB w) (eh (j:=0) (u:=fA w) (U jq) (by simp)) (by simp)
  have d0:=zb oK 0 rfl
  have d1:=zb oK 1 rfl
  change bodyPost _ _ _ _ _ (fW w W1)
  refine bodyPost_ret (v:=.agg #[fA w,fB w]) ?_ rfl (fld_end (by decide) (by decide) (U xU) (U H12).1 (U H12).2)
  first | (simp [results,Tryz.f85,go_sem,d0,d1,fW]; done) | (simp [results,Tryz.f78,go_sem,d0,d1,fW]; done) | (simp [results,Tryz.f79,go_sem,d0,d1,fW]; done) | (simp [results,Tryz.f80,go_sem,d0,d1,fW]; done) | (simp [results,Tryz.f81,go_sem,d0,d1,fW]; done) | (simp [results,Tryz.f86,go_sem,d0,d1,fW]; done) | (simp [results,Tryz.f84,go_sem,d0,d1,fW]; done) | (simp [results,Tryz.f88,go_sem,d0,d1,fW]; done) | (simp [results,Tryz.f89,go_sem,d0,d1,fW]; done) | (simp [results,Tryz.f90,go_sem,d0,d1,fW]; done) | (simp [results,Tryz.f87,go_sem,d0,d1,fW]; done)
abbrev mk1_fld (w:World):=(dR w).1
abbrev mk2_fld (w:World):=(dR w).2.1
abbrev mk3_fld (w:World):=(dR w).2.2.1
abbrev mk4_fld (w:World):=(dR w).2.2.2.1
abbrev mk5_fld (w:World):=(dR w).2.2.2.2.1
abbrev mk6_fld (w:World):=(dR w).2.2.2.2.2.1
abbrev mk9_fld (w:World):=(dR w).2.2.2.2.2.2.1
abbrev mk10_fld (w:World):=(dR w).2.2.2.2.2.2.2.1
abbrev mk11_fld (w:World):=(dR w).2.2.2.2.2.2.2.2.1
abbrev mk12_fld (w:World):=(dR w).2.2.2.2.2.2.2.2.2.1
abbrev mk13_fld (w:World):=(dR w).2.2.2.2.2.2.2.2.2.2
theorem mk7_fld (w:World):Calls Tryz.prog 82 #[] w fun e w'=>FEnd 7 w e w':=by
 have hsfn:=sfn
 go_enter Tryz.func82,Tryz.ntmps82
 go_wp2
 go_returns
 exact ⟨_,_,_,rfl,by unfold FF; simp,by go_grown⟩
theorem mk8_fld (w:World):Calls Tryz.prog 83 #[] w fun e w'=>FEnd 8 w e w':=by
 have hsfn:=sfn
 go_enter Tryz.func83,Tryz.ntmps83
 go_wp2
 go_returns
 exact ⟨_,_,_,rfl,by unfold FF; simp,by go_grown⟩
def shF (k:Int):List Nat:=if k = 1 then [2,3,4,5,7,8,9] else if k = 2 then [1,2,3,4,5,6,7,8,13] else if k = 3 then [9,10,11,12] else if k = 4 ∨ k = 5 ∨ k = 6 ∨ k = 7 ∨ k = 9 then [9,11] else if k = 8 then [11] else []
def shC (k:Int):Int:=if k = 1 then 1 else 0
def FFs (W:World) (B:Nat):List Nat→List Fc→Prop
 | [],[]=>True
 | o :: os,c :: cs=>FF W B o c∧FFs W B os cs
 | _,_=>False
def dn (k:Int) (w:World) (e:Ending) (w':World):Prop:=∃ v fs,e = .returned (.agg #[H (shC k),v])∧OwnR Fc.vs 2 w.heap.size w' v fs∧FFs w' w.heap.size (shF k) fs∧yn w w'
theorem ff_set {B o b j:Nat} {W:World} {c:Fc} {u:Value} (h:FF W B o c) (A:b < B):FF (W.setCell (J b j) u) B o c:=by
 unfold FF at h ⊢
 split
 ·rwa [if_pos ‹_›] at h
 ·rw [if_neg ‹_›] at h
  split
  ·rwa [if_pos ‹_›] at h
  ·rw [if_neg ‹_›] at h
   obtain ⟨d,Q,D,X,h4⟩:=h
   refine ⟨d,Q,D,by simpa using X,?_⟩
   rw [← h4]
   unfold World.cell?
   rw [yT _ _ _ _ (by show d ≠ b; omega)]
theorem fcs_made {B:Nat} (W:World) (fs:List Fc) (t:TypeId) (hB:B ≤ W.heap.size) (hl:fs.length ≤ 1073741824):OwnR Fc.vs 2 B (W.alloc (O (fs.flatMap Fc.vs).toArray t)) (.slice (some (J W.heap.size 0)) fs.length fs.length) fs:=by
 refine ⟨_,_,rfl,hl,fun _=>⟨W.heap.size,rfl,hB,by simp,fun i c hi=>?_,eC (heap_alloc_new W _) (by rw [List.size_toArray,zL Fc.len]; omega)⟩⟩
 intro j u hu
 have hj:j < 2:=(yH.1 hu).1
 rw [Nat.zero_add]
 exact zb (zy W (fs.flatMap Fc.vs) t) (i * 2 + j) ((flat_get Fc.len fs i j c hi hj).trans hu)
theorem ffs_app {W:World} {B o:Nat} {c:Fc}:∀ {os:List Nat} {fs:List Fc},FFs W B os fs→FF W B o c→FFs W B (os ++ [o]) (fs ++ [c])
 | [],[],_,h=>⟨h,trivial⟩
 | _ :: _,_ :: _,Q,D=>⟨Q.1,ffs_app Q.2 D⟩
theorem ffs_map {W W':World} {B B':Nat} (hm:∀ o c,FF W B o c→FF W' B' o c):∀ {os:List Nat} {fs:List Fc},FFs W B os fs→FFs W' B' os fs
 | [],[],_=>trivial
 | _ :: _,_ :: _,h=>⟨hm _ _ h.1,ffs_map hm h.2⟩
structure SH (w W:World) (os:List Nat) (fs:List Fc):Prop where
 x:Bx W w.heap.size [.int .i64 0,.slice none 0 0]
 b:Below w.heap.size w W
 s:w.heap.size < W.heap.size
 f:FFs W (w.heap.size + 1) os fs
theorem sh_start (w:World):SH w (w.alloc (O #[H 0,.slice none 0 0] 95)) [] []:=⟨zy w [H 0,.slice none 0 0] 95,gZ _ _,by simp,trivial⟩
theorem cD {w W W':World} {os:List Nat} {fs:List Fc} {o:Nat} {c:Fc} (h:SH w W os fs) (hf:FF W' W.heap.size o c) (A:yn W W'):SH w W' (os ++ [o]) (fs ++ [c]) :=
 ⟨zl h.x A h.s,h.b.trans (A.mono h.b.size),yK h.s A.size,ffs_app (ffs_map (fun _ _ h=>fH h A hU) h.f) (ff_base hf h.s)⟩
def shW (w W:World) (c:Int) (fs:List Fc):World:=((W.setCell (J w.heap.size 0) (H c)).setCell (J w.heap.size 1) (.slice (some (J W.heap.size 0)) fs.length fs.length)).alloc (O (fs.flatMap Fc.vs).toArray 136)
theorem sh_end {k c:Int} {w W:World} {os:List Nat} {fs:List Fc} (h:SH w W os fs) (Y:shF k = os) (hc:shC k = c) (hl:fs.length ≤ 1073741824):dn k w (.returned (.agg #[H c,.slice (some (J W.heap.size 0)) fs.length fs.length])) (shW w W c fs)∧(shW w W c fs).cell? (J w.heap.size 0) = some (H c)∧(shW w W c fs).cell? (J w.heap.size 1) = some (.slice (some (J W.heap.size 0)) fs.length fs.length):=by
 unfold shW
 have oK:=eh (j:=1) (u:=(.slice (some (J W.heap.size 0)) fs.length fs.length)) (eh (j:=0) (u:=H c) h.x (by simp)) (by simp)
 have hv:((W.setCell (J w.heap.size 0) (H c)).setCell (J w.heap.size 1) (.slice (some (J W.heap.size 0)) fs.length fs.length)).heap.size = W.heap.size:=by simp
 have vA:=(h.b.setCell (p:=(J w.heap.size 0)) hU (H c)).setCell (p:=(J w.heap.size 1)) hU (.slice (some (J W.heap.size 0)) fs.length fs.length)
 have hf:=ffs_map (fun _ _ h=>ff_set (b:=w.heap.size) (j:=1) (u:=(.slice (some (J W.heap.size 0)) fs.length fs.length)) (ff_set (b:=w.heap.size) (j:=0) (u:=H c) h (by omega)) (by omega)) h.f
 generalize ((W.setCell (J w.heap.size 0) (H c)).setCell (J w.heap.size 1) (.slice (some (J W.heap.size 0)) fs.length fs.length)) = V at oK hv vA hf ⊢
 have kU:=fcs_made (B:=w.heap.size) V fs 136 vA.size hl
 rw [hv] at kU
 have bF:=gZ V (O (fs.flatMap Fc.vs).toArray 136)
 have hs:=h.s
 have hx3:=zl oK bF (by omega)
 refine ⟨⟨_,_,by rw [hc],kU,?_,vA.alloc vA.size _⟩,zb hx3 0 rfl,zb hx3 1 rfl⟩
 rw [Y]
 exact ffs_map (fun _ _ h=>ff_base (fH h bF hU) (by omega)) hf
theorem shp_fin {k c:Int} {w W:World} {os:List Nat} {fs:List Fc} (h:SH w W os fs) (Y:shF k = os) (hc:shC k = c) (hl:fs.length ≤ 1073741824):dn k w (.returned (.agg #[H c,.slice (some (J W.heap.size 0)) fs.length fs.length])) (shW w W c fs):=(sh_end h Y hc hl).1
theorem shape1_any (w:World):Calls Tryz.prog 45 #[H 1] w fun e w'=>dn 1 w e w':=by
 have H0:=M (sh_start w)
 go_enter Tryz.func45,Tryz.ntmps45
 go_wp2_with fail
 generalize (w.alloc (O #[H 0,.slice none 0 0] 95)) = W0 at H0 ⊢
 refine (mk2_fld W0).mono ?_
 rintro e W1 ⟨a1,b1,l1,rfl,hf,A⟩
 have H1:=M (cD (U H0) hf A)
 clear hf A H0
 go_wp2_with fail
 refine (mk3_fld W1).mono ?_
 rintro e W2 ⟨a2,b2,l2,rfl,hf,A⟩
 have H2:=M (cD (U H1) hf A)
 clear hf A H1
 go_wp2_with fail
 refine (mk4_fld W2).mono ?_
 rintro e W3 ⟨a3,b3,l3,rfl,hf,A⟩
 have H3:=M (cD (U H2) hf A)
 clear hf A H2
 go_wp2_with fail
 refine (mk5_fld W3).mono ?_
 rintro e W4 ⟨a4,b4,l4,rfl,hf,A⟩
 have H4:=M (cD (U H3) hf A)
 clear hf A H3
 go_wp2_with fail
 refine (mk7_fld W4).mono ?_
 rintro e W5 ⟨a5,b5,l5,rfl,hf,A⟩
 have H5:=M (cD (U H4) hf A)
 clear hf A H4
 go_wp2_with fail
 refine (mk8_fld W5).mono ?_
 rintro e W6 ⟨a6,b6,l6,rfl,hf,A⟩
 have H6:=M (cD (U H5) hf A)
 clear hf A H5
 go_wp2_with fail
 refine (mk9_fld W6).mono ?_
 rintro e W7 ⟨a7,b7,l7,rfl,hf,A⟩
 have H7:=M (cD (U H6) hf A)
 clear hf A H6
 have c0:=zb (U H7).x 0 rfl
 have c1:=zb (U H7).x 1 rfl
 have f0:=zd (U H7).x 0 (by decide)
 have f1:=zd (U H7).x 1 (by decide)
 have hs:=(U H7).s
 go_wp2_with fail
 clear c0 c1 f0 f1
 change bodyPost _ _ _ _ _ (shW w W7 1 [⟨a1,b1,l1⟩,⟨a2,b2,l2⟩,⟨a3,b3,l3⟩,⟨a4,b4,l4⟩,⟨a5,b5,l5⟩,⟨a6,b6,l6⟩,⟨a7,b7,l7⟩])
 obtain ⟨_,d0,d1⟩:=sh_end (k:=1) (c:=1) (U H7) rfl rfl (by simp)
 refine bodyPost_ret (v:=.agg #[H 1,.slice (some (J W7.heap.size 0)) 7 7]) ?_ rfl (shp_fin (U H7) rfl rfl (by simp))
 change (shW w W7 1 [⟨a1,b1,l1⟩,⟨a2,b2,l2⟩,⟨a3,b3,l3⟩,⟨a4,b4,l4⟩,⟨a5,b5,l5⟩,⟨a6,b6,l6⟩,⟨a7,b7,l7⟩]).cell? _ = _ at d0 d1
 generalize shW w W7 1 [⟨a1,b1,l1⟩,⟨a2,b2,l2⟩,⟨a3,b3,l3⟩,⟨a4,b4,l4⟩,⟨a5,b5,l5⟩,⟨a6,b6,l6⟩,⟨a7,b7,l7⟩] = V9 at d0 d1 ⊢
 simp [results,Tryz.f45,go_sem,d0,d1]
theorem shape2_any (w:World):Calls Tryz.prog 45 #[H 2] w fun e w'=>dn 2 w e w':=by
 have H0:=M (sh_start w)
 go_enter Tryz.func45,Tryz.ntmps45
 go_wp2_with fail
 generalize (w.alloc (O #[H 0,.slice none 0 0] 95)) = W0 at H0 ⊢
 refine (mk1_fld W0).mono ?_
 rintro e W1 ⟨a1,b1,l1,rfl,hf,A⟩
 have H1:=M (cD (U H0) hf A)
 clear hf A H0
 go_wp2_with fail
 refine (mk2_fld W1).mono ?_
 rintro e W2 ⟨a2,b2,l2,rfl,hf,A⟩
 have H2:=M (cD (U H1) hf A)
 clear hf A H1
 go_wp2_with fail
 refine (mk3_fld W2).mono ?_
 rintro e W3 ⟨a3,b3,l3,rfl,hf,A⟩
 have H3:=M (cD (U H2) hf A)
 clear hf A H2
 go_wp2_with fail
 refine (mk4_fld W3).mono ?_
 rintro e W4 ⟨a4,b4,l4,rfl,hf,A⟩
 have H4:=M (cD (U H3) hf A)
 clear hf A H3
 go_wp2_with fail
 refine (mk5_fld W4).mono ?_
 rintro e W5 ⟨a5,b5,l5,rfl,hf,A⟩
 have H5:=M (cD (U H4) hf A)
 clear hf A H4
 go_wp2_with fail
 refine (mk6_fld W5).mono ?_
 rintro e W6 ⟨a6,b6,l6,rfl,hf,A⟩
 have H6:=M (cD (U H5) hf A)
 clear hf A H5
 go_wp2_with fail
 refine (mk7_fld W6).mono ?_
 rintro e W7 ⟨a7,b7,l7,rfl,hf,A⟩
 have H7:=M (cD (U H6) hf A)
 clear hf A H6
 go_wp2_with fail
 refine (mk8_fld W7).mono ?_
 rintro e W8 ⟨a8,b8,l8,rfl,hf,A⟩
 have H8:=M (cD (U H7) hf A)
 clear hf A H7
 go_wp2_with fail
 refine (mk13_fld W8).mono ?_
 rintro e W9 ⟨a9,b9,l9,rfl,hf,A⟩
 have H9:=M (cD (U H8) hf A)
 clear hf A H8
 have c0:=zb (U H9).x 0 rfl
 have c1:=zb (U H9).x 1 rfl
 have f0:=zd (U H9).x 0 (by decide)
 have f1:=zd (U H9).x 1 (by decide)
 have hs:=(U H9).s
 go_wp2_with fail
 clear c0 c1 f0 f1
 change bodyPost _ _ _ _ _ (shW w W9 0 [⟨a1,b1,l1⟩,⟨a2,b2,l2⟩,⟨a3,b3,l3⟩,⟨a4,b4,l4⟩,⟨a5,b5,l5⟩,⟨a6,b6,l6⟩,⟨a7,b7,l7⟩,⟨a8,b8,l8⟩,⟨a9,b9,l9⟩])
 obtain ⟨_,d0,d1⟩:=sh_end (k:=2) (c:=0) (U H9) rfl rfl (by simp)
 refine bodyPost_ret (v:=.agg #[H 0,.slice (some (J W9.heap.size 0)) 9 9]) ?_ rfl (shp_fin (U H9) rfl rfl (by simp))
 change (shW w W9 0 [⟨a1,b1,l1⟩,⟨a2,b2,l2⟩,⟨a3,b3,l3⟩,⟨a4,b4,l4⟩,⟨a5,b5,l5⟩,⟨a6,b6,l6⟩,⟨a7,b7,l7⟩,⟨a8,b8,l8⟩,⟨a9,b9,l9⟩]).cell? _ = _ at d0 d1
 generalize shW w W9 0 [⟨a1,b1,l1⟩,⟨a2,b2,l2⟩,⟨a3,b3,l3⟩,⟨a4,b4,l4⟩,⟨a5,b5,l5⟩,⟨a6,b6,l6⟩,⟨a7,b7,l7⟩,⟨a8,b8,l8⟩,⟨a9,b9,l9⟩] = V9 at d0 d1 ⊢
 simp [results,Tryz.f45,go_sem,d0,d1]
theorem shape3_any (w:World):Calls Tryz.prog 45 #[H 3] w fun e w'=>dn 3 w e w':=by
 have H0:=M (sh_start w)
 go_enter Tryz.func45,Tryz.ntmps45
 go_wp2_with fail
 generalize (w.alloc (O #[H 0,.slice none 0 0] 95)) = W0 at H0 ⊢
 refine (mk9_fld W0).mono ?_
 rintro e W1 ⟨a1,b1,l1,rfl,hf,A⟩
 have H1:=M (cD (U H0) hf A)
 clear hf A H0
 go_wp2_with fail
 refine (mk10_fld W1).mono ?_
 rintro e W2 ⟨a2,b2,l2,rfl,hf,A⟩
 have H2:=M (cD (U H1) hf A)
 clear hf A H1
 go_wp2_with fail
 refine (mk11_fld W2).mono ?_
 rintro e W3 ⟨a3,b3,l3,rfl,hf,A⟩
 have H3:=M (cD (U H2) hf A)
 clear hf A H2
 go_wp2_with fail
 refine (mk12_fld W3).mono ?_
 rintro e W4 ⟨a4,b4,l4,rfl,hf,A⟩
 have H4:=M (cD (U H3) hf A)
 clear hf A H3
 have c0:=zb (U H4).x 0 rfl
 have c1:=zb (U H4).x 1 rfl
 have f0:=zd (U H4).x 0 (by decide)
 have f1:=zd (U H4).x 1 (by decide)
 have hs:=(U H4).s
 go_wp2_with fail
 clear c0 c1 f0 f1
 change bodyPost _ _ _ _ _ (shW w W4 0 [⟨a1,b1,l1⟩,⟨a2,b2,l2⟩,⟨a3,b3,l3⟩,⟨a4,b4,l4⟩])
 obtain ⟨_,d0,d1⟩:=sh_end (k:=3) (c:=0) (U H4) rfl rfl (by simp)
 refine bodyPost_ret (v:=.agg #[H 0,.slice (some (J W4.heap.size 0)) 4 4]) ?_ rfl (shp_fin (U H4) rfl rfl (by simp))
 change (shW w W4 0 [⟨a1,b1,l1⟩,⟨a2,b2,l2⟩,⟨a3,b3,l3⟩,⟨a4,b4,l4⟩]).cell? _ = _ at d0 d1
 generalize shW w W4 0 [⟨a1,b1,l1⟩,⟨a2,b2,l2⟩,⟨a3,b3,l3⟩,⟨a4,b4,l4⟩] = V9 at d0 d1 ⊢
 simp [results,Tryz.f45,go_sem,d0,d1]
theorem fZ (w:World):(Calls Tryz.prog 45 #[H 4] w fun e w'=>dn 4 w e w')∧(Calls Tryz.prog 45 #[H 5] w fun e w'=>dn 5 w e w')∧(Calls Tryz.prog 45 #[H 6] w fun e w'=>dn 6 w e w')∧(Calls Tryz.prog 45 #[H 7] w fun e w'=>dn 7 w e w')∧(Calls Tryz.prog 45 #[H 9] w fun e w'=>dn 9 w e w'):=by
 refine ⟨?_,?_,?_,?_,?_⟩
 all_goals
  have H0:=M (sh_start w)
  go_enter Tryz.func45,Tryz.ntmps45
  go_wp2_with fail
  generalize (w.alloc (O #[H 0,.slice none 0 0] 95)) = W0 at H0 ⊢
  refine (mk9_fld W0).mono ?_
  rintro e W1 ⟨a1,b1,l1,rfl,hf,A⟩
  have H1:=M (cD (U H0) hf A)
  clear hf A H0
  go_wp2_with fail
  refine (mk11_fld W1).mono ?_
  rintro e W2 ⟨a2,b2,l2,rfl,hf,A⟩
  have H2:=M (cD (U H1) hf A)
  clear hf A H1
  have c0:=zb (U H2).x 0 rfl
  have c1:=zb (U H2).x 1 rfl
  have f0:=zd (U H2).x 0 (by decide)
  have f1:=zd (U H2).x 1 (by decide)
  have hs:=(U H2).s
  go_wp2_with fail
  clear c0 c1 f0 f1
  change bodyPost _ _ _ _ _ (shW w W2 0 [⟨a1,b1,l1⟩,⟨a2,b2,l2⟩])
  obtain ⟨_,d0,d1⟩:=sh_end (k:=4) (c:=0) (U H2) rfl rfl (by simp)
  refine bodyPost_ret (v:=.agg #[H 0,.slice (some (J W2.heap.size 0)) 2 2]) ?_ rfl (shp_fin (U H2) rfl rfl (by simp))
  change (shW w W2 0 [⟨a1,b1,l1⟩,⟨a2,b2,l2⟩]).cell? _ = _ at d0 d1
  generalize shW w W2 0 [⟨a1,b1,l1⟩,⟨a2,b2,l2⟩] = V9 at d0 d1 ⊢
  simp [results,Tryz.f45,go_sem,d0,d1]
theorem shape8_any (w:World):Calls Tryz.prog 45 #[H 8] w fun e w'=>dn 8 w e w':=by
 have H0:=M (sh_start w)
 go_enter Tryz.func45,Tryz.ntmps45
 go_wp2_with fail
 generalize (w.alloc (O #[H 0,.slice none 0 0] 95)) = W0 at H0 ⊢
 refine (mk11_fld W0).mono ?_
 rintro e W1 ⟨a1,b1,l1,rfl,hf,A⟩
 have H1:=M (cD (U H0) hf A)
 clear hf A H0
 have c0:=zb (U H1).x 0 rfl
 have c1:=zb (U H1).x 1 rfl
 have f0:=zd (U H1).x 0 (by decide)
 have f1:=zd (U H1).x 1 (by decide)
 have hs:=(U H1).s
 go_wp2_with fail
 clear c0 c1 f0 f1
 change bodyPost _ _ _ _ _ (shW w W1 0 [⟨a1,b1,l1⟩])
 obtain ⟨_,d0,d1⟩:=sh_end (k:=8) (c:=0) (U H1) rfl rfl (by simp)
 refine bodyPost_ret (v:=.agg #[H 0,.slice (some (J W1.heap.size 0)) 1 1]) ?_ rfl (shp_fin (U H1) rfl rfl (by simp))
 change (shW w W1 0 [⟨a1,b1,l1⟩]).cell? _ = _ at d0 d1
 generalize shW w W1 0 [⟨a1,b1,l1⟩] = V9 at d0 d1 ⊢
 simp [results,Tryz.f45,go_sem,d0,d1]
abbrev shape4_any (w:World):=(fZ w).1
abbrev shape5_any (w:World):=(fZ w).2.1
abbrev shape6_any (w:World):=(fZ w).2.2.1
abbrev shape7_any (w:World):=(fZ w).2.2.2.1
abbrev shape9_any (w:World):=(fZ w).2.2.2.2
theorem shapeN_any (k:Int) (w:World) (h:¬ (1 ≤ k∧k ≤ 9)):Calls Tryz.prog 45 #[H k] w fun e w'=>dn k w e w':=by
 have HE:Hid (∀ w',yn w w'→dn k w (.returned (.agg #[H 0,.slice none 0 0])) w'):=fun w' A=>by
  have Q:shC k = 0:=if_neg (by omega)
  have D:shF k = []:=by unfold shF; rw [if_neg (by omega),if_neg (by omega),if_neg (by omega),if_neg (by omega),if_neg (by omega)]
  unfold dn
  rw [Q,D]
  exact ⟨_,[],rfl,⟨none,0,rfl,by simp,fun h=>absurd rfl h⟩,trivial,A⟩
 have e1:(k == 1) = false:=xe.2 (by omega)
 have e2:(k == 2) = false:=xe.2 (by omega)
 have e3:(k == 3) = false:=xe.2 (by omega)
 have e4:(k == 4) = false:=xe.2 (by omega)
 have e5:(k == 5) = false:=xe.2 (by omega)
 have e6:(k == 6) = false:=xe.2 (by omega)
 have e7:(k == 7) = false:=xe.2 (by omega)
 have e8:(k == 8) = false:=xe.2 (by omega)
 have e9:(k == 9) = false:=xe.2 (by omega)
 clear h
 go_enter Tryz.func45,Tryz.ntmps45
 go_wp2_with fail
 go_returns
 exact U HE _ (by go_grown)
theorem shape_any (k:Int) (w:World):Calls Tryz.prog 45 #[H k] w fun e w'=>dn k w e w':=by
 by_cases h:1 ≤ k∧k ≤ 9
 ·rcases (show k = 1 ∨ k = 2 ∨ k = 3 ∨ k = 4 ∨ k = 5 ∨ k = 6 ∨ k = 7 ∨ k = 8 ∨ k = 9 by omega) with rfl | rfl | rfl | rfl | rfl | rfl | rfl | rfl | rfl
  ·exact shape1_any w
  ·exact shape2_any w
  ·exact shape3_any w
  ·exact shape4_any w
  ·exact shape5_any w
  ·exact shape6_any w
  ·exact shape7_any w
  ·exact shape8_any w
  ·exact shape9_any w
 ·exact shapeN_any k w h
end Go.Proofs.YthhkapcbocgcoaaGreatDoor
