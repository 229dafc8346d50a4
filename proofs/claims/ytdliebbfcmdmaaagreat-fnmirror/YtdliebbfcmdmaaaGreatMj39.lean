/-
  Why a command is refused, by the model: proved by walking the functions.
-/
import Derived.Test.YtdliebbfcmdmaaaGreatMj38
set_option linter.unusedVariables false
set_option maxHeartbeats 6400000
set_option maxRecDepth 100000
namespace Go.Proofs.YtdliebbfcmdmaaaGreat
open Go.RowKit
theorem cV (next:Int) (vb:Value) (l:List Od) (c:Cm) (w:World) (hr:RdR Od.vs 6 w vb l) (hs:SlOk vb) (hg:GoodL l) (uF:∀ x ∈ l,x.side = 1 ∨ x.side = 2) (ht:c.g.size ≤ maxLen) :
  Calls Tryz.prog 12 #[.agg #[H next,vb],cmV c] w fun e w'=>e = .returned (H (refS next l c))∧yn w w':=by
 have HNW:=Y (fun W hW=>l04New_any next vb l c W hW hs hg uF ht)
 have HFM:=Y (fun W=>l04Form_any c W)
 have vO:=hg.len
 generalize hre:refS next l c = res
 have vp:=Y hre.symm
 generalize hnr:newR next l c = nr at HNW
 have qX:=Y hnr
 clear hg uF ht hre hnr
 obtain ⟨kk,s,X,li,F,ii,pr,O⟩:=c
 unfold cmV at HNW HFM ⊢
 simp only at HNW HFM ⊢
 have HR:=Y hr
 have vR:=Y hs
 obtain ⟨a,A,rfl,xD,hc⟩:=hr
 have xq:∀ (k:Nat) (c:Od),l[k]? = some c→∃ b off,a = some (J b off)∧b < w.heap.size∧w.rangeAt b (off + k * 6) c.vs:=by
  intro k c hk
  obtain ⟨b,off,Q,N,h3⟩:=hc (by intro h; rw [h] at hk; simp at hk)
  exact ⟨b,off,Q,N,h3 k c hk⟩
 have HC:=Y xq
 clear xq hc xD hs
 have xA:=ze w (E #[H next,.slice a l.length A] 31)
 have uc:((w.alloc (E #[H next,.slice a l.length A] 31)).alloc (E (yw kk s X li F ii pr O).toArray 27)).heap.size = w.heap.size + 1 + 1:=by rw [ze,xA]
 have r1:=zg w [H next,.slice a l.length A] 31
 have r2:=zg (w.alloc (E #[H next,.slice a l.length A] 31)) (yw kk s X li F ii pr O) 27
 rw [xA] at r2
 have qm:Below (w.heap.size + 1) (w.alloc (E #[H next,.slice a l.length A] 31)) ((w.alloc (E #[H next,.slice a l.length A] 31)).alloc (E (yw kk s X li F ii pr O).toArray 27)):=(Below.refl _ _).alloc (by rw [xA]; omega) _
 have xF:Hid (yn w ((w.alloc (E #[H next,.slice a l.length A] 31)).alloc (E (yw kk s X li F ii pr O).toArray 27))):=(ed _ _).alloc (by rw [xA]; omega) _
 have HX:Hid (_∧_):=⟨zb r1 qm (by omega),r2⟩
 have ux:Hid (w.heap.size + 1 < ((w.alloc (E #[H next,.slice a l.length A] 31)).alloc (E (yw kk s X li F ii pr O).toArray 27)).heap.size):=by show _ < _; omega
 clear xA uc r1 r2 qm
 go_enter Tryz.func12,Tryz.ntmps12
 refine ei fun hR xu=>?_
 go_wp2_with fail
 refine U xu _ _ ?_
 clear xu
 generalize ((w.alloc (E #[H next,.slice a l.length A] 31)).alloc (E (yw kk s X li F ii pr O).toArray 27)) = X2 at xF HX ux ⊢
 have HX:Hid (X2.rangeAt w.heap.size 0 [H next,.slice a l.length A]∧X2.rangeAt (w.heap.size + 1) 0 (yw kk s X li F ii pr O)):=U HX
 have k0:X2.cell? (J w.heap.size 0) = some (H next):=(U HX).1 0 _ rfl
 have k1:X2.cell? (J w.heap.size 1) = some (.slice a l.length A):=(U HX).1 1 _ rfl
 obtain ⟨o0,o1,o2,o3,o4,o5,o6,o7⟩:=yD (U HX).2
 cases bk:betB kk 1 4
 ·have HK:Hid (res = 1):=(U vp).trans (by simp [refS,bk])
  go_wp2_with (first | (go_at_call 23; refine (dd _ _ _ _).mono ?_; rintro e w' ⟨rfl,ul⟩; rw [ul]; clear ul w'))
  go_ret
  exact ⟨zp (U HK).symm,U xF⟩
 go_wp2_with (first | (go_at_call 23; refine (dd _ _ _ _).mono ?_; rintro e w' ⟨rfl,ul⟩; rw [ul]; clear ul w'))
 refine (U HFM _).mono ?_
 cases bf:aK ⟨kk,s,X,li,F,ii,pr,O⟩
 ·rintro e w3 ⟨rfl,uH⟩
  have xT:=Y (eh (U xF) uH)
  have HK:Hid (res = 2):=(U vp).trans (by simp [refS,bk,bf])
  clear uH bf bk
  go_wp2_with fail
  go_ret
  exact ⟨zp (U HK).symm,U xT⟩
 rintro e w3 ⟨rfl,uH⟩
 have xT:=Y (eh (U xF) uH)
 have kH:Hid (w3.rangeAt w.heap.size 0 [H next,.slice a l.length A]∧w3.rangeAt (w.heap.size + 1) 0 (yw kk s X li F ii pr O)):=⟨zb (U HX).1 uH (by have:=U ux; omega),zb (U HX).2 uH (U ux)⟩
 have hl3:w.heap.size + 1 < w3.heap.size:=yJ (U ux) uH.size
 clear uH HX xF ux
 clear k0 k1 o0 o1 o2 o3 o4 o5 o6 o7
 have k0:w3.cell? (J w.heap.size 0) = some (H next):=(U kH).1 0 _ rfl
 have k1:w3.cell? (J w.heap.size 1) = some (.slice a l.length A):=(U kH).1 1 _ rfl
 obtain ⟨o0,o1,o2,o3,o4,o5,o6,o7⟩:=yD (U kH).2
 by_cases Q:kk = 1
 ·subst Q
  have HK:Hid (res = nr):=(U vp).trans (by rw [← U qX]; simp [refS,bk,bf])
  clear bk bf vp qX
  go_wp2_with fail
  refine (U HNW w3 (zl (U HR) (U xT) tg)).mono ?_
  rintro e w4 ⟨rfl,xC⟩
  have un:=Y (eh (U xT) xC)
  clear xC
  go_wp2_with fail
  go_ret
  exact ⟨zp (U HK).symm,U un⟩
 by_cases h4:kk = 4
 ·subst h4
  have HK:Hid (res = 0):=(U vp).trans (by simp [refS,bk,bf])
  clear bk bf vp qX
  go_wp2_with fail
  go_ret
  exact ⟨zp (U HK).symm,U xT⟩
 have b1:(kk == 1) = false:=by rw [xd]; exact Q
 have b4:(kk == 4) = false:=by rw [xd]; exact h4
 by_cases h3:kk = 3
 ·subst h3
  cases bq:betB F 1 1000000
  ·have HK:Hid (res = 7):=(U vp).trans (by simp [refS,bk,bf,bq])
   clear bk bf vp qX
   go_wp2_with (first | (go_at_call 23; refine (dd _ _ _ _).mono ?_; rintro e w' ⟨rfl,ul⟩; rw [ul]; clear ul w'))
   go_ret
   exact ⟨zp (U HK).symm,U xT⟩
  have kT:Hid (res = if plc l ii < 0 then 9 else match l[(plc l ii).toNat]? with | some o=>if o.left ≤ F then 10 else 0 | none=>0):=(U vp).trans (by simp [refS,bk,bf,bq]; cases l[(plc l ii).toNat]? <;> rfl)
  clear bk bf vp qX Q h4
  go_wp2_with (first | (go_at_call 23; refine (dd _ _ _ _).mono ?_; rintro e w' ⟨rfl,ul⟩; rw [ul]; clear ul w'))
  refine (cZ _ l ii w3 (zl (U HR) (U xT) tg)).mono ?_
  rintro e w4 ⟨rfl,xC⟩
  have un:=Y (eh (U xT) xC)
  have xS:Hid (w4.rangeAt w.heap.size 0 [H next,.slice a l.length A]∧w4.rangeAt (w.heap.size + 1) 0 (yw 3 s X li F ii pr O)):=⟨zb (U kH).1 xC (by omega),zb (U kH).2 xC hl3⟩
  clear xC
  clear k0 k1 o0 o1 o2 o3 o4 o5 o6 o7
  have k0:w4.cell? (J w.heap.size 0) = some (H next):=(U xS).1 0 _ rfl
  have k1:w4.cell? (J w.heap.size 1) = some (.slice a l.length A):=(U xS).1 1 _ rfl
  obtain ⟨o0,o1,o2,o3,o4,o5,o6,o7⟩:=yD (U xS).2
  rcases dg l ii with e | ⟨k,o,e,Z⟩
  ·have HK:Hid (res = 9):=(U kT).trans (by rw [e]; rfl)
   rw [e]
   clear e
   go_wp2_with fail
   go_ret
   exact ⟨zp (U HK).symm,U un⟩
  ·have kT:Hid (res = if o.left ≤ F then 10 else 0):=(U kT).trans (by rw [e,if_neg (by omega)]; simp [Z])
   obtain ⟨b,off,rfl,L,xo⟩:=U HC k o Z
   have kO:=(yG.1 Z).1
   have c3:w4.cell? (J b (off + k * 6 + 3)) = some (H o.left):=zb xo (U un) L 3 _ rfl
   have kY:(k:Int) < l.length:=by omega
   have hk0:(0:Int) ≤ k:=by omega
   have hkn:¬ (k:Int) < 0:=by omega
   rw [e]
   clear e Z xo L kO
   by_cases hq:o.left ≤ F
   ·have HK:Hid (res = 10):=(U kT).trans (if_pos hq)
    have hq':decide (o.left ≤ F) = true:=by simpa using hq
    go_wp2_with fail
    go_quiet (fail)
    go_wp2_with fail
    go_ret
    exact ⟨zp (U HK).symm,cH (U un) _⟩
   ·have HK:Hid (res = 0):=(U kT).trans (if_neg hq)
    have hq':decide (o.left ≤ F) = false:=by simpa using hq
    go_wp2_with fail
    go_quiet (fail)
    go_wp2_with fail
    go_ret
    exact ⟨zp (U HK).symm,cH (U un) _⟩
 ·have b3:(kk == 3) = false:=by rw [xd]; exact h3
  have kT:Hid (res = if plc l ii < 0 then 9 else 0):=(U vp).trans (by
   have hx:¬ (kk = 3∧betB F 1 1000000 = false):=fun h=>h3 h.1
   have hy:∀ o:Od,¬ (kk = 3∧o.left ≤ F):=fun o h=>h3 h.1
   simp only [refS]
   rw [if_neg (by rw [bk]; simp),if_neg (by rw [bf]; simp),if_neg Q,if_neg h4,if_neg hx]
   by_cases hp:plc l ii < 0
   ·rw [if_pos hp,if_pos hp]
   ·rw [if_neg hp,if_neg hp]
    cases l[(plc l ii).toNat]? with
    | none=>rfl
    | some o=>exact if_neg (hy o))
  clear bk bf vp qX Q h4 h3
  go_wp2_with fail
  refine (cZ _ l ii w3 (zl (U HR) (U xT) tg)).mono ?_
  rintro e w4 ⟨rfl,xC⟩
  have un:=Y (eh (U xT) xC)
  have xS:Hid (w4.rangeAt w.heap.size 0 [H next,.slice a l.length A]∧w4.rangeAt (w.heap.size + 1) 0 (yw kk s X li F ii pr O)):=⟨zb (U kH).1 xC (by omega),zb (U kH).2 xC hl3⟩
  clear xC
  clear k0 k1 o0 o1 o2 o3 o4 o5 o6 o7
  have k0:w4.cell? (J w.heap.size 0) = some (H next):=(U xS).1 0 _ rfl
  have k1:w4.cell? (J w.heap.size 1) = some (.slice a l.length A):=(U xS).1 1 _ rfl
  obtain ⟨o0,o1,o2,o3,o4,o5,o6,o7⟩:=yD (U xS).2
  by_cases hp:plc l ii < 0
  ·have HK:Hid (res = 9):=(U kT).trans (if_pos hp)
   go_wp2_with fail
   go_ret
   exact ⟨zp (U HK).symm,U un⟩
  ·have HK:Hid (res = 0):=(U kT).trans (if_neg hp)
   have hp':decide (plc l ii < 0) = false:=by simpa using hp
   go_wp2_with fail
   go_quiet (fail)
   go_wp2_with fail
   go_ret
   exact ⟨zp (U HK).symm,cH (U un) _⟩
theorem own_keepC {w w':World} {base e z n:Nat} {v:Value} {xs:List Value} (h:w.ownsRow base e z v n xs) (L:Below w.heap.size w w'):w'.ownsRow base e z v n xs :=
 h.kept (zX (G:=none) L (Nat.le_refl _)) (by cases hv:v.ownBlock with | none=>exact .inl rfl | some k=>exact .inr (by simp))
set_option maxRecDepth 100000 in
set_option maxHeartbeats 3200000 in
theorem cleanOf_any (v:Value) (l:List Int) (w:World) (h:Rd w v l) (L:Bts l) :
  Calls Tryz.prog 4 #[v] w fun e w'=>∃ (o:Value) (cs:List Cm),e = .returned o∧(∀ c ∈ cs,CleanC c)∧cs.length ≤ 27∧w'.ownsRow w.heap.size 27 8 o cs.length (cs.flatMap Cm.vs)∧Below w.heap.size w w':=by
 obtain ⟨i0,hi,uA,uC,uM⟩:=info_parts Tryz.infoCmdD
 have HR:=hide h
 have HB:=hide L
 obtain ⟨a,A,rfl,-,-⟩:=h
 clear L
 go_enter Tryz.func4,Tryz.ntmps4
 go_wp2_with fail
 refine (source_ex _ l _ (U HR) (U HB)).mono ?_
 rintro e w1 ⟨rfl,hS,xX⟩
 have xW:=hide xX
 have HSZ:=hide (fun W hW=>size_ex w.heap.size (.slice a l.length A) l 24 ⟨0,(l.length:Int) % 1000⟩ W hW)
 obtain ⟨pO,hy1⟩:=szF_bd l
 generalize szF l 24 = y at HSZ pO hy1
 have qf:=hide (fun W hW=>aS w.heap.size (.slice a l.length A) l (y + 4) ⟨0,(l.length:Int) % 1000⟩ W hW (by show (0:Int) ≤ _; omega) (by omega) (by omega))
 have hat:=aC l (y + 4) ⟨0,(l.length:Int) % 1000⟩
 obtain ⟨jd,hj1⟩:=nx_bd (l:=l) (n:=y + 4) (s:=⟨0,(l.length:Int) % 1000⟩) (by omega)
 generalize nxF l (y + 4) ⟨0,(l.length:Int) % 1000⟩ = hj at qf hat jd hj1
 obtain ⟨j0,s1⟩:=hj
 simp only at qf hat jd hj1
 have hB:=bL hS.src
 have HV:=hide (src_far hS.src)
 have HS:=hide hS
 clear hS xX HR HB
 have vh:=hide (World.ownsRow_made (base:=w1.heap.size) (e:=27) (size:=8) w1 #[] 0 (Nat.le_refl _) (by decide) rfl)
 go_wp2_with fail
 refine (U HSZ _ (bh (bB (U HS)) _).1).mono ?_
 rintro e w2 ⟨rfl,rfl⟩
 have hwr:IntKind.i64.wrap (y + 4) = y + 4:=by rw [IntKind.wrap_i64]; omega
 go_wp2_with fail
 refine (U qf _ (bh (bB (U HS)) _).1).mono ?_
 rintro e w2 ⟨rfl,hE⟩
 have HE:=hide (show SrXE w.heap.size w1 (.slice a l.length A) l s1 w2 from ⟨hE.1,zL (aY w1 _ _) hE.2⟩)
 have HO:=hide ((U vh).kept hE.2 (.inr (by simp [Value.ownBlock]; omega)))
 clear hE HSZ qf vh
 have hsf:=sfl
 go_wp2_with fail
 go_loopw [4,5] (fun ov iv wr=>∃ (cs:List Cm) (j:Nat) (st:Sr),iv = .int .i64 j∧cs.length + j ≤ 27∧(∀ c ∈ cs,CleanC c)∧st.at_ ≤ 1000003 + 30 * (27 - j)∧wr.ownsRow w1.heap.size 27 8 ov cs.length (cs.flatMap Cm.vs)∧SrX w.heap.size wr (.slice a l.length A) l st∧w1.grownBy wr (some w.heap.size)) (fun _ iv _=>(intOf iv).toNat)
 case atStart =>
  obtain ⟨j,rfl⟩:=Int.eq_ofNat_of_zero_le jd
  have h0:(⟨0,(l.length:Int) % 1000⟩:Sr).at_ = 0:=rfl
  exact ⟨[],j,s1,rfl,by simp; omega,by simp,by omega,U HO,(U HE).1,(U HE).2⟩
 case round =>
  obtain ⟨cs,j,st,rfl,xD,hxs,hat2,xL,hsrc,ub⟩:=hrel
  have HX:=hide hxs
  have jC:=hide xL
  have HSR:=hide hsrc
  have oz:=hide ub
  have xB:Hid (∀ k,k < w1.heap.size→u4.ownBlock ≠ some k):=fun k hk e=>by have:=(xL.lt k e).1; omega
  obtain ⟨ao,co,rfl⟩:=db xL
  clear hxs xL hsrc ub HE HO HS
  by_cases R:j = 0
  ·subst R
   go_wp2_with fail
   go_ret
   exact ⟨_,cs,rfl,U HX,by omega,own_baseD (U jC) (Nat.le_of_lt hB),own_below_grown (U xW) (Nat.le_refl _) (U oz)⟩
  have hj':(0:Int) < j:=by omega
  clear R
  go_wp2_with fail
  refine (cmd_ex w.heap.size _ l cs.length st _ (U HSR) (by omega) (by omega) (by omega)).mono ?_
  rintro e w3 ⟨⟨ck,c1,ct,cl,cq,ci,cp,jc⟩,rfl,hcg,hE3⟩
  have ha:=cmd_at l cs.length st
  have qk:Hid (ge200 cp = false→(refR 1 [] ⟨ck,c1,ct,cl,cq,ci,cp,jc⟩ = 0 ∨ ck = 2 ∨ (ck = 1∧ct = 4∧eq995 cp = true))→CleanC ⟨ck,c1,ct,cl,cq,ci,cp,jc⟩):=fun Q N=>clean_of hcg Q N
  have hgs:Hid (jc.size ≤ maxLen):=yN (drOk_eq hcg (cmdF_ok l cs.length st)).1 (by unfold maxLen; omega)
  generalize (cmdF l cs.length st).2 = st' at hE3 ha
  have qL:=hide ((U jC).kept hE3.2 (.inr (U xB w.heap.size (by omega))))
  have HS5:=hide ((bh (bB hE3.1) (Obj.cells #[.int .i64 ck,.int .i64 c1,.int .i64 ct,.int .i64 cl,.int .i64 cq,.int .i64 ci,.float .f64 cp,.string jc] 27)).1)
  have qW:=hide (zL (zL (U oz) hE3.2) (aY w3 (Obj.cells #[.int .i64 ck,.int .i64 c1,.int .i64 ct,.int .i64 cl,.int .i64 cq,.int .i64 ci,.float .f64 cp,.string jc] 27) (some w.heap.size)))
  have kD:=hide ((U qL).alloc (Obj.cells #[.int .i64 ck,.int .i64 c1,.int .i64 ct,.int .i64 cl,.int .i64 cq,.int .i64 ci,.float .f64 cp,.string jc] 27))
  have pv:=hide (bG w3 [.int .i64 ck,.int .i64 c1,.int .i64 ct,.int .i64 cl,.int .i64 cq,.int .i64 ci,.float .f64 cp,.string jc] 27)
  have pe:w3.heap.size < (w3.alloc (Obj.cells #[.int .i64 ck,.int .i64 c1,.int .i64 ct,.int .i64 cl,.int .i64 cq,.int .i64 ci,.float .f64 cp,.string jc] 27)).heap.size:=by simp
  have qG:w1.heap.size ≤ w3.heap.size:=yN (U oz).size hE3.2.size
  clear hE3 hcg qL jC HSR oz
  unfold Cm.vs
  simp only
  have b6:=aM (U pv) 6 rfl
  cases hge:ge200 cp
  ·have hge':((FloatKind.f64.format.order cp 4641240890982006784 == some Ordering.gt) || (FloatKind.f64.format.order cp 4641240890982006784 == some Ordering.eq)) = false:=hge
   have b0:=aM (U pv) 0 rfl
   have b1:=aM (U pv) 1 rfl
   have b2:=aM (U pv) 2 rfl
   have b3:=aM (U pv) 3 rfl
   have b4:=aM (U pv) 4 rfl
   have b5:=aM (U pv) 5 rfl
   have b7:=aM (U pv) 7 rfl
   have vp:=hide (fun W=>cV 1 (.slice none 0 0) [] ⟨ck,c1,ct,cl,cq,ci,cp,jc⟩ W ⟨none,0,rfl,by simp,by simp⟩ (.inl rfl) ⟨by simp,by simp,List.Pairwise.nil⟩ (by simp) (U hgs))
   rw [ref_eq] at vp
   have HCL2:=hide (fun N=>U qk hge N)
   clear qk
   have qk:=HCL2
   clear HCL2
   generalize refR 1 [] ⟨ck,c1,ct,cl,cq,ci,cp,jc⟩ = r at vp qk
   unfold cmV at vp
   simp only at vp
   clear hge
   go_wp2_with fail
   generalize (w3.alloc (Obj.cells #[.int .i64 ck,.int .i64 c1,.int .i64 ct,.int .i64 cl,.int .i64 cq,.int .i64 ci,.float .f64 cp,.string jc] 27)) = W5 at HS5 qW kD pv pe b0 b1 b2 b3 b4 b5 b6 b7 ⊢
   refine (U vp W5).mono ?_
   rintro e w6 ⟨rfl,jj⟩
   have HX6:=hide (bQ (U pv) jj pe)
   have oB:=hide (own_keepC (U kD) jj)
   have HS6:=hide (srX_keep (U HS5) (zX (G:=none) jj (Nat.le_refl _)) (by simp) (fun hn=>by obtain ⟨k,Q,-⟩:=U HV hn; rw [Q]; simp))
   have jq:=hide (zL (U qW) (zX (G:=some w.heap.size) jj (Nat.le_refl _)))
   have hs6:w3.heap.size < w6.heap.size:=yJ pe jj.size
   clear jj pv kD HS5 qW b0 b1 b2 b3 b4 b5 b6 b7 vp pe
   have b0:=aM (U HX6) 0 rfl
   have b1:=aM (U HX6) 1 rfl
   have b2:=aM (U HX6) 2 rfl
   have b3:=aM (U HX6) 3 rfl
   have b4:=aM (U HX6) 4 rfl
   have b5:=aM (U HX6) 5 rfl
   have b6:=aM (U HX6) 6 rfl
   have b7:=aM (U HX6) 7 rfl
   by_cases hr:r = 0
   ·subst hr
    go_wp2_with (at_builtin; go_must (refine wpList_append_own _ rfl _ _ 23 rfl w1.heap.size 27 i0 _ 8 72 Tryz.underlying23 hi uA uC uM rfl (by decide) _ cs.length (cs.flatMap Cm.vs) rfl ((U oB).alloc _) ⟨w6.heap.size,0,none⟩ 1 1 (Cm.vs ⟨ck,c1,ct,cl,cq,ci,cp,jc⟩) rfl rfl (dK w6 _ _) (by simp [Value.oneCell',Cm.vs]) (by unfold maxLen; omega) (by omega) (by simp; omega) ?_); intro v4 w4 uR jX _)
    go_roundw
    case rel =>
     refine ⟨cs ++ [⟨ck,c1,ct,cl,cq,ci,cp,jc⟩],j - 1,st',by go_num,by simp; omega,fun x hx=>?_,by omega,by simpa using uR,?_,?_⟩
     ·rcases List.mem_append.1 hx with hx | hx
      ·exact U HX x hx
      ·rw [List.mem_singleton.1 hx]; exact U qk (by simp)
     ·refine srX_keep (bh (bB (U HS6)) _).1 jX (fun e=>U xB w.heap.size (by omega) e.symm) (fun hn e=>?_)
      obtain ⟨k,Q,N⟩:=U HV hn
      exact U xB k N (e ▸ Q)
     ·exact gr_newD (zL (U jq) (aY w6 _ _)) jX (fun k hk=>((U oB).lt k hk).1)
    case measure=>simp [intOf]; omega
   have qA:(r == 0) = false:=by simpa using hr
   by_cases hk2:ck = 2
   ·subst hk2
    go_wp2_with (at_builtin; go_must (refine wpList_append_own _ rfl _ _ 23 rfl w1.heap.size 27 i0 _ 8 72 Tryz.underlying23 hi uA uC uM rfl (by decide) _ cs.length (cs.flatMap Cm.vs) rfl ((U oB).alloc _) ⟨w6.heap.size,0,none⟩ 1 1 (Cm.vs ⟨2,c1,ct,cl,cq,ci,cp,jc⟩) rfl rfl (dK w6 _ _) (by simp [Value.oneCell',Cm.vs]) (by unfold maxLen; omega) (by omega) (by simp; omega) ?_); intro v4 w4 uR jX _)
    go_roundw
    case rel =>
     refine ⟨cs ++ [⟨2,c1,ct,cl,cq,ci,cp,jc⟩],j - 1,st',by go_num,by simp; omega,fun x hx=>?_,by omega,by simpa using uR,?_,?_⟩
     ·rcases List.mem_append.1 hx with hx | hx
      ·exact U HX x hx
      ·rw [List.mem_singleton.1 hx]; exact U qk (by simp)
     ·refine srX_keep (bh (bB (U HS6)) _).1 jX (fun e=>U xB w.heap.size (by omega) e.symm) (fun hn e=>?_)
      obtain ⟨k,Q,N⟩:=U HV hn
      exact U xB k N (e ▸ Q)
     ·exact gr_newD (zL (U jq) (aY w6 _ _)) jX (fun k hk=>((U oB).lt k hk).1)
    case measure=>simp [intOf]; omega
   have hkb:(ck == 2) = false:=by simpa using hk2
   by_cases hk1:ck = 1
   ·subst hk1
    by_cases ht4:ct = 4
    ·subst ht4
     cases he9:eq995 cp
     ·have he9':(FloatKind.f64.format.order cp 4636702106982547456 == some Ordering.eq) = false:=he9
      clear he9
      go_wp2_with fail
      go_roundw
      case rel=>exact ⟨cs,j - 1,st',by go_num,by omega,U HX,by omega,U oB,U HS6,U jq⟩
      case measure=>simp [intOf]; omega
     ·have he9':(FloatKind.f64.format.order cp 4636702106982547456 == some Ordering.eq) = true:=he9
      clear he9
      go_wp2_with (at_builtin; go_must (refine wpList_append_own _ rfl _ _ 23 rfl w1.heap.size 27 i0 _ 8 72 Tryz.underlying23 hi uA uC uM rfl (by decide) _ cs.length (cs.flatMap Cm.vs) rfl ((U oB).alloc _) ⟨w6.heap.size,0,none⟩ 1 1 (Cm.vs ⟨1,c1,4,cl,cq,ci,cp,jc⟩) rfl rfl (dK w6 _ _) (by simp [Value.oneCell',Cm.vs]) (by unfold maxLen; omega) (by omega) (by simp; omega) ?_); intro v4 w4 uR jX _)
      go_roundw
      case rel =>
       refine ⟨cs ++ [⟨1,c1,4,cl,cq,ci,cp,jc⟩],j - 1,st',by go_num,by simp; omega,fun x hx=>?_,by omega,by simpa using uR,?_,?_⟩
       ·rcases List.mem_append.1 hx with hx | hx
        ·exact U HX x hx
        ·rw [List.mem_singleton.1 hx]; exact U qk (by first | exact .inr (.inr ⟨rfl,rfl,he9'⟩) | simp [eq995,he9'])
       ·refine srX_keep (bh (bB (U HS6)) _).1 jX (fun e=>U xB w.heap.size (by omega) e.symm) (fun hn e=>?_)
        obtain ⟨k,Q,N⟩:=U HV hn
        exact U xB k N (e ▸ Q)
       ·exact gr_newD (zL (U jq) (aY w6 _ _)) jX (fun k hk=>((U oB).lt k hk).1)
      case measure=>simp [intOf]; omega
    ·have htb:(ct == 4) = false:=by simpa using ht4
     go_wp2_with fail
     go_roundw
     case rel=>exact ⟨cs,j - 1,st',by go_num,by omega,U HX,by omega,U oB,U HS6,U jq⟩
     case measure=>simp [intOf]; omega
   ·have hk1b:(ck == 1) = false:=by simpa using hk1
    go_wp2_with fail
    go_roundw
    case rel=>exact ⟨cs,j - 1,st',by go_num,by omega,U HX,by omega,U oB,U HS6,U jq⟩
    case measure=>simp [intOf]; omega
  ·have hge':((FloatKind.f64.format.order cp 4641240890982006784 == some Ordering.gt) || (FloatKind.f64.format.order cp 4641240890982006784 == some Ordering.eq)) = true:=hge
   clear hge
   go_wp2_with fail
   go_roundw
   case rel=>exact ⟨cs,j - 1,st',by go_num,by omega,U HX,by omega,U kD,U HS5,U qW⟩
   case measure=>simp [intOf]; omega
theorem csM_map:∀ {cs:List Cm},(∀ c ∈ cs,CleanC c)→CsM cs (cs.map aH)
 | [],_=>True.intro
 | c :: cs,h=>⟨turn_mir (h c (by simp)),csM_map fun x hx=>h x (by simp [hx])⟩
theorem esM_at:∀ {a b:List Ev},EsM a b→∀ (k:Nat) (e:Ev),a[k]? = some e→∃ f,b[k]? = some f∧EvM e f
 | [],[],_,_,_,h=>by simp at h
 | x :: _,y :: _,h,0,e,he=>⟨y,rfl,by simp at he; rw [← he]; exact h.1⟩
 | _ :: a,_ :: b,h,k + 1,e,he=>esM_at h.2 k e (by simpa using he)
 | [],_ :: _,h,_,_,_=>h.elim
 | _ :: _,[],h,_,_,_=>h.elim
theorem turn_tag {c:Cm}:(aH c).g = c.g:=by unfold aH; split <;> rfl
theorem mir_run {cs:List Cm} (h:∀ c ∈ cs,CleanC c) (hl:cs.length ≤ 200) :
  (rsF (cs.map aH)).g.length = (rsF cs).g.length∧(rsF cs).g.length = cs.length∧(∀ es ∈ (rsF cs).g,es.length ≤ 100)∧(∀ fs ∈ (rsF (cs.map aH)).g,fs.length ≤ 100) ∧
  ∀ (i:Nat) (es:List Ev),(rsF cs).g[i]? = some es→∃ fs,(rsF (cs.map aH)).g[i]? = some fs∧EsM es fs:=by
 have hl2:(cs.map aH).length ≤ 200:=by rw [List.length_map]; exact hl
 obtain ⟨-,-,h3,h4⟩:=run_mir cs (cs.map aH) (csM_map h) hl cs.length (Nat.le_refl _)
 rw [yZ (Nat.le_refl _)] at h4
 rw [yZ (by rw [List.length_map]; exact Nat.le_refl _)] at h3 h4
 have e1:(rsF cs).g = (runS cs).g:=by rw [rsF,if_pos hl]
 have e2:(rsF (cs.map aH)).g = (runS (cs.map aH)).g:=by rw [rsF,if_pos hl2]
 have hg:(runS cs).g.length = cs.length:=(run_inv cs hl).2.2.2
 have hfew:∀ es ∈ (rsF cs).g,es.length ≤ 100:=fun es he=>by
  obtain ⟨i,hi⟩:=List.getElem?_of_mem he
  have xK:=(yG.1 hi).1
  obtain ⟨c,hc⟩:∃ c,cs[i]? = some c:=⟨_,yH (by rw [e1,hg] at xK; exact xK)⟩
  obtain ⟨_,_,_,h5,_⟩:=types_ok cs hl i c es hc hi
  exact h5
 refine ⟨by rw [e1,e2,h3,hg],by rw [e1,hg],hfew,fun fs hf=>?_,fun i es hi=>by rw [e1] at hi; rw [e2]; exact h4 i es hi⟩
 obtain ⟨i,hi⟩:=List.getElem?_of_mem hf
 have xK:=(yG.1 hi).1
 rw [e2,h3] at xK
 obtain ⟨es,vi⟩:∃ es,(runS cs).g[i]? = some es:=⟨_,yH (by rw [hg]; exact xK)⟩
 obtain ⟨fs',h6,h7⟩:=h4 i es vi
 rw [e2,h6] at hi
 obtain rfl:=Option.some.inj hi
 rw [esM_len h7]
 exact hfew es (by rw [e1]; exact yO vi)
theorem box3 (w:World) (bl cl rl:List Value) (T1 T2 T3:TypeId):(((w.alloc (Obj.cells bl.toArray T1)).alloc (Obj.cells cl.toArray T2)).alloc (Obj.cells rl.toArray T3)).heap.size = w.heap.size + 3∧World.rangeAt (((w.alloc (Obj.cells bl.toArray T1)).alloc (Obj.cells cl.toArray T2)).alloc (Obj.cells rl.toArray T3)) w.heap.size 0 bl∧World.rangeAt (((w.alloc (Obj.cells bl.toArray T1)).alloc (Obj.cells cl.toArray T2)).alloc (Obj.cells rl.toArray T3)) (w.heap.size + 1) 0 cl∧World.rangeAt (((w.alloc (Obj.cells bl.toArray T1)).alloc (Obj.cells cl.toArray T2)).alloc (Obj.cells rl.toArray T3)) (w.heap.size + 1 + 1) 0 rl∧World.there (((w.alloc (Obj.cells bl.toArray T1)).alloc (Obj.cells cl.toArray T2)).alloc (Obj.cells rl.toArray T3)) (w.heap.size + 1 + 1) 0 rl.length∧yn w (((w.alloc (Obj.cells bl.toArray T1)).alloc (Obj.cells cl.toArray T2)).alloc (Obj.cells rl.toArray T3)):=by
 have xA:=ze w (Obj.cells bl.toArray T1)
 have uc:((w.alloc (Obj.cells bl.toArray T1)).alloc (Obj.cells cl.toArray T2)).heap.size = w.heap.size + 1 + 1:=by rw [ze,xA]
 have r1:=zg w bl T1
 have r2:=zg (w.alloc (Obj.cells bl.toArray T1)) cl T2
 have r3:=zg ((w.alloc (Obj.cells bl.toArray T1)).alloc (Obj.cells cl.toArray T2)) rl T3
 have t3:=zu ((w.alloc (Obj.cells bl.toArray T1)).alloc (Obj.cells cl.toArray T2)) rl T3
 have b1:=ed w (Obj.cells bl.toArray T1)
 have b2:Below (w.alloc (Obj.cells bl.toArray T1)).heap.size (w.alloc (Obj.cells bl.toArray T1)) ((w.alloc (Obj.cells bl.toArray T1)).alloc (Obj.cells cl.toArray T2)):=ed _ _
 have b3:Below ((w.alloc (Obj.cells bl.toArray T1)).alloc (Obj.cells cl.toArray T2)).heap.size ((w.alloc (Obj.cells bl.toArray T1)).alloc (Obj.cells cl.toArray T2)) (((w.alloc (Obj.cells bl.toArray T1)).alloc (Obj.cells cl.toArray T2)).alloc (Obj.cells rl.toArray T3)):=ed _ _
 rw [xA] at r2
 rw [uc] at r3 t3
 refine ⟨by rw [ze,uc],zb (zb r1 b2 (by omega)) b3 (by omega),zb r2 b3 (by omega),r3,t3,b1.trans ((eh b2 b3).mono b1.size)⟩
theorem there_blk {W W':World} {b o n:Nat} (h:W.there b o n) (L:W'.heap[b]? = W.heap[b]?):W'.there b o n:=fun j R=>by
 rw [yQ (a:=(J b (o + j))) L,World.frozen?_of_block (a:=(J b (o + j))) L]; exact h j R
end Go.Proofs.YtdliebbfcmdmaaaGreat
