/-
  Why a command is refused, by the model: proved by walking the functions.
-/
import Derived.Test.YtnphbkgfjanmgaaGreatDoorBj33
set_option linter.unusedVariables false
set_option maxHeartbeats 6400000
set_option maxRecDepth 100000
namespace Go.Proofs.YtnphbkgfjanmgaaGreatDoor
open Go.RowKit
theorem okS_sides {next:Int} {l:List Od} (h:okS next l = true):∀ x ∈ l,x.side = 1 ∨ x.side = 2:=by
 simp only [okS,xe,xf] at h
 obtain ⟨⟨⟨Q,E⟩,h4⟩,_⟩:=h
 intro o N
 have:=eI h4 o N
 simp [ordB,betB] at this
 omega
theorem ec (next:Int) (vb:Value) (l:List Od) (c:Cm) (w:World) (hr:RdR Od.vs 6 w vb l) (hs:SlOk vb) (hg:GoodL l) (uT:∀ x ∈ l,x.side = 1 ∨ x.side = 2) (ht:c.g.size ≤ maxLen) :
  Calls Tryz.prog 106 #[.agg #[I next,vb],cmV c] w fun e w'=>e = .returned (I (refS next l c))∧yn w w':=by
 have HNW:=M (fun W hW=>l04New_any next vb l c W hW hs hg uT ht)
 have vY:=M (fun W=>l04Form_any c W)
 have hlen20:=hg.len
 generalize ji:refS next l c = res
 have vk:=M ji.symm
 generalize hnr:newR next l c = nr at HNW
 have ku:=M hnr
 clear hg uT ht ji hnr
 obtain ⟨kk,s,ty,li,qt,ii,pr,tg⟩:=c
 unfold cmV at HNW vY ⊢
 simp only at HNW vY ⊢
 have HR:=M hr
 have km:=M hs
 obtain ⟨a,cap,rfl,xA,hc⟩:=hr
 have xr:∀ (k:Nat) (c:Od),l[k]? = some c→∃ b off,a = some (U b off)∧b < w.heap.size∧w.rangeAt b (off + k * 6) c.vs:=by
  intro k c hk
  obtain ⟨b,off,Q,E,h3⟩:=hc (by intro h; rw [h] at hk; simp at hk)
  exact ⟨b,off,Q,E,h3 k c hk⟩
 have HC:=M xr
 clear xr hc xA hs
 have xK:=zi w (A #[I next,.slice a l.length cap] 34)
 have ue:((w.alloc (A #[I next,.slice a l.length cap] 34)).alloc (A (yx kk s ty li qt ii pr tg).toArray 50)).heap.size = w.heap.size + 1 + 1:=by rw [zi,xK]
 have r1:=zn w [I next,.slice a l.length cap] 34
 have r2:=zn (w.alloc (A #[I next,.slice a l.length cap] 34)) (yx kk s ty li qt ii pr tg) 50
 rw [xK] at r2
 have qz:Below (w.heap.size + 1) (w.alloc (A #[I next,.slice a l.length cap] 34)) ((w.alloc (A #[I next,.slice a l.length cap] 34)).alloc (A (yx kk s ty li qt ii pr tg).toArray 50)):=(Below.refl _ _).alloc (by rw [xK]; omega) _
 have xu:Hid (yn w ((w.alloc (A #[I next,.slice a l.length cap] 34)).alloc (A (yx kk s ty li qt ii pr tg).toArray 50))):=(fE _ _).alloc (by rw [xK]; omega) _
 have HX:Hid (_∧_):=⟨zc r1 qz (by omega),r2⟩
 have uu:Hid (w.heap.size + 1 < ((w.alloc (A #[I next,.slice a l.length cap] 34)).alloc (A (yx kk s ty li qt ii pr tg).toArray 50)).heap.size):=by show _ < _; omega
 clear xK ue r1 r2 qz
 go_enter Tryz.func106,Tryz.ntmps106
 refine fI fun hR xU=>?_
 go_wp2_with fail
 refine H xU _ _ ?_
 clear xU
 generalize ((w.alloc (A #[I next,.slice a l.length cap] 34)).alloc (A (yx kk s ty li qt ii pr tg).toArray 50)) = X2 at xu HX uu ⊢
 have HX:Hid (X2.rangeAt w.heap.size 0 [I next,.slice a l.length cap]∧X2.rangeAt (w.heap.size + 1) 0 (yx kk s ty li qt ii pr tg)):=H HX
 have k0:X2.cell? (U w.heap.size 0) = some (I next):=(H HX).1 0 _ rfl
 have k1:X2.cell? (U w.heap.size 1) = some (.slice a l.length cap):=(H HX).1 1 _ rfl
 obtain ⟨o0,o1,o2,o3,o4,o5,o6,o7⟩:=yD (H HX).2
 cases bk:betB kk 1 4
 ·have HK:Hid (res = 1):=(H vk).trans (by simp [refS,bk])
  go_wp2_with (first | (go_at_call 47; refine (bP _ _ _ _).mono ?_; rintro e w' ⟨rfl,un⟩; rw [un]; clear un w'))
  go_ret
  exact ⟨zy (H HK).symm,H xu⟩
 go_wp2_with (first | (go_at_call 47; refine (bP _ _ _ _).mono ?_; rintro e w' ⟨rfl,un⟩; rw [un]; clear un w'))
 refine (H vY _).mono ?_
 cases bf:bh ⟨kk,s,ty,li,qt,ii,pr,tg⟩
 ·rintro e w3 ⟨rfl,xM⟩
  have xL:=M (fH (H xu) xM)
  have HK:Hid (res = 2):=(H vk).trans (by simp [refS,bk,bf])
  clear xM bf bk
  go_wp2_with fail
  go_ret
  exact ⟨zy (H HK).symm,H xL⟩
 rintro e w3 ⟨rfl,xM⟩
 have xL:=M (fH (H xu) xM)
 have uC:Hid (w3.rangeAt w.heap.size 0 [I next,.slice a l.length cap]∧w3.rangeAt (w.heap.size + 1) 0 (yx kk s ty li qt ii pr tg)):=⟨zc (H HX).1 xM (by have:=H uu; omega),zc (H HX).2 xM (H uu)⟩
 have hl3:w.heap.size + 1 < w3.heap.size:=yJ (H uu) xM.size
 clear xM HX xu uu
 clear k0 k1 o0 o1 o2 o3 o4 o5 o6 o7
 have k0:w3.cell? (U w.heap.size 0) = some (I next):=(H uC).1 0 _ rfl
 have k1:w3.cell? (U w.heap.size 1) = some (.slice a l.length cap):=(H uC).1 1 _ rfl
 obtain ⟨o0,o1,o2,o3,o4,o5,o6,o7⟩:=yD (H uC).2
 by_cases Q:kk = 1
 ·subst Q
  have HK:Hid (res = nr):=(H vk).trans (by rw [← H ku]; simp [refS,bk,bf])
  clear bk bf vk ku
  go_wp2_with fail
  refine (H HNW w3 (zh (H HR) (H xL) ya)).mono ?_
  rintro e w4 ⟨rfl,xw⟩
  have xG:=M (fH (H xL) xw)
  clear xw
  go_wp2_with fail
  go_ret
  exact ⟨zy (H HK).symm,H xG⟩
 by_cases h4:kk = 4
 ·subst h4
  have HK:Hid (res = 0):=(H vk).trans (by simp [refS,bk,bf])
  clear bk bf vk ku
  go_wp2_with fail
  go_ret
  exact ⟨zy (H HK).symm,H xL⟩
 have b1:(kk == 1) = false:=by rw [xd]; exact Q
 have b4:(kk == 4) = false:=by rw [xd]; exact h4
 by_cases h3:kk = 3
 ·subst h3
  cases bq:betB qt 1 1000000
  ·have HK:Hid (res = 7):=(H vk).trans (by simp [refS,bk,bf,bq])
   clear bk bf vk ku
   go_wp2_with (first | (go_at_call 47; refine (bP _ _ _ _).mono ?_; rintro e w' ⟨rfl,un⟩; rw [un]; clear un w'))
   go_ret
   exact ⟨zy (H HK).symm,H xL⟩
  have HRF:Hid (res = if plc l ii < 0 then 9 else match l[(plc l ii).toNat]? with | some o=>if o.left ≤ qt then 10 else 0 | none=>0):=(H vk).trans (by simp [refS,bk,bf,bq]; cases l[(plc l ii).toNat]? <;> rfl)
  clear bk bf vk ku Q h4
  go_wp2_with (first | (go_at_call 47; refine (bP _ _ _ _).mono ?_; rintro e w' ⟨rfl,un⟩; rw [un]; clear un w'))
  refine (du _ l ii w3 (zh (H HR) (H xL) ya)).mono ?_
  rintro e w4 ⟨rfl,xw⟩
  have xG:=M (fH (H xL) xw)
  have xE:Hid (w4.rangeAt w.heap.size 0 [I next,.slice a l.length cap]∧w4.rangeAt (w.heap.size + 1) 0 (yx 3 s ty li qt ii pr tg)):=⟨zc (H uC).1 xw (by omega),zc (H uC).2 xw hl3⟩
  clear xw
  clear k0 k1 o0 o1 o2 o3 o4 o5 o6 o7
  have k0:w4.cell? (U w.heap.size 0) = some (I next):=(H xE).1 0 _ rfl
  have k1:w4.cell? (U w.heap.size 1) = some (.slice a l.length cap):=(H xE).1 1 _ rfl
  obtain ⟨o0,o1,o2,o3,o4,o5,o6,o7⟩:=yD (H xE).2
  rcases plc_cases l ii with e | ⟨k,o,e,N⟩
  ·have HK:Hid (res = 9):=(H HRF).trans (by rw [e]; rfl)
   rw [e]
   clear e
   go_wp2_with fail
   go_ret
   exact ⟨zy (H HK).symm,H xG⟩
  ·have HRF:Hid (res = if o.left ≤ qt then 10 else 0):=(H HRF).trans (by rw [e,if_neg (by omega)]; simp [N])
   obtain ⟨b,off,rfl,Y,V⟩:=H HC k o N
   have pa:=(yG.1 N).1
   have c3:w4.cell? (U b (off + k * 6 + 3)) = some (I o.left):=zc V (H xG) Y 3 _ rfl
   have oN:(k:Int) < l.length:=by omega
   have pA:(0:Int) ≤ k:=by omega
   have hkn:¬ (k:Int) < 0:=by omega
   rw [e]
   clear e N V Y pa
   by_cases hq:o.left ≤ qt
   ·have HK:Hid (res = 10):=(H HRF).trans (if_pos hq)
    have hq':decide (o.left ≤ qt) = true:=by simpa using hq
    go_wp2_with fail
    go_quiet (fail)
    go_wp2_with fail
    go_ret
    exact ⟨zy (H HK).symm,zV (H xG) _⟩
   ·have HK:Hid (res = 0):=(H HRF).trans (if_neg hq)
    have hq':decide (o.left ≤ qt) = false:=by simpa using hq
    go_wp2_with fail
    go_quiet (fail)
    go_wp2_with fail
    go_ret
    exact ⟨zy (H HK).symm,zV (H xG) _⟩
 ·have b3:(kk == 3) = false:=by rw [xd]; exact h3
  have HRF:Hid (res = if plc l ii < 0 then 9 else 0):=(H vk).trans (by
   have hx:¬ (kk = 3∧betB qt 1 1000000 = false):=fun h=>h3 h.1
   have hy:∀ o:Od,¬ (kk = 3∧o.left ≤ qt):=fun o h=>h3 h.1
   simp only [refS]
   rw [if_neg (by rw [bk]; simp),if_neg (by rw [bf]; simp),if_neg Q,if_neg h4,if_neg hx]
   by_cases hp:plc l ii < 0
   ·rw [if_pos hp,if_pos hp]
   ·rw [if_neg hp,if_neg hp]
    cases l[(plc l ii).toNat]? with
    | none=>rfl
    | some o=>exact if_neg (hy o))
  clear bk bf vk ku Q h4 h3
  go_wp2_with fail
  refine (du _ l ii w3 (zh (H HR) (H xL) ya)).mono ?_
  rintro e w4 ⟨rfl,xw⟩
  have xG:=M (fH (H xL) xw)
  have xE:Hid (w4.rangeAt w.heap.size 0 [I next,.slice a l.length cap]∧w4.rangeAt (w.heap.size + 1) 0 (yx kk s ty li qt ii pr tg)):=⟨zc (H uC).1 xw (by omega),zc (H uC).2 xw hl3⟩
  clear xw
  clear k0 k1 o0 o1 o2 o3 o4 o5 o6 o7
  have k0:w4.cell? (U w.heap.size 0) = some (I next):=(H xE).1 0 _ rfl
  have k1:w4.cell? (U w.heap.size 1) = some (.slice a l.length cap):=(H xE).1 1 _ rfl
  obtain ⟨o0,o1,o2,o3,o4,o5,o6,o7⟩:=yD (H xE).2
  by_cases hp:plc l ii < 0
  ·have HK:Hid (res = 9):=(H HRF).trans (if_pos hp)
   go_wp2_with fail
   go_ret
   exact ⟨zy (H HK).symm,H xG⟩
  ·have HK:Hid (res = 0):=(H HRF).trans (if_neg hp)
   have hp':decide (plc l ii < 0) = false:=by simpa using hp
   go_wp2_with fail
   go_quiet (fail)
   go_wp2_with fail
   go_ret
   exact ⟨zy (H HK).symm,zV (H xG) _⟩
def msV (vl vd va:Value) (g:Gr) (t:Od) (kd n0:Int):List Value:=[I g.nx,vl,I t.id,I t.side,I t.ticks,I t.left,I t.life,yk t.tag,I kd,.bool (g.bg != 0),vd,I n0,va]
structure MS (hj B:Nat) (W:World) (vl vd va:Value) (g:Gr) (t:Od) (kd n0:Int) (dy l0:List Od):Prop where
 box:Bx W hj (msV vl vd va g t kd n0)
 row:ORow W B vl g.l
 days:RdR Od.vs 6 W vd dy
 ahd:RdR Od.vs 6 W va l0
 sla:SlOk va
 typ:∃ cur,W.heap[hj]? = some (.cells cur 80 (0,0))
 hO:B ≤ hj
 eqd:g.bg = 0→n0 = g.nx∧l0 = g.l∧vd = .slice none 0 0
 ndc:dy ≠ []→∀ b off n c,vd = .slice (some ⟨b,off,none⟩) n c→b ≠ hj∧n ≤ c
 na:l0 ≠ []→∀ b off n c,va = .slice (some ⟨b,off,none⟩) n c→b < B
section
variable {hj B:Nat} {w W W':World} {vl vd va:Value} {g g':Gr} {t t':Od} {kd kd' n0:Int} {dy l0:List Od}
theorem MS.lt (h:MS hj B W vl vd va g t kd n0 dy l0):hj < W.heap.size:=by
 obtain ⟨xF,hc⟩:=h.typ
 exact (yY.1 hc).1
theorem MS.eqn (h:MS hj B W vl vd va g t kd n0 dy l0) (Y:g.bg = 0):n0 = g.nx∧l0 = g.l:=⟨(h.eqd Y).1,(h.eqd Y).2.1⟩
theorem MS.nd (h:MS hj B W vl vd va g t kd n0 dy l0) (hd:dy ≠ []) (b off n c:Nat) (e:vd = .slice (some (U b off)) n c):b ≠ hj:=(h.ndc hd b off n c e).1
theorem MS.base (h:MS hj B W vl vd va g t kd n0 dy l0):B ≤ W.heap.size:=yN h.hO (Nat.le_of_lt h.lt)
theorem MS.nl (h:MS hj B W vl vd va g t kd n0 dy l0):some hj ≠ vl.ownBlock:=cd h.row h.typ (by decide)
theorem zv (h:MS hj B W vl vd va g t kd n0 dy l0) (Y:yn W W'):MS hj B W' vl vd va g t kd n0 dy l0 :=
 ⟨zg h.box Y h.lt,zM h.row Y,zh h.days Y ya,zh h.ahd Y ya,h.sla,by obtain ⟨xF,hc⟩:=h.typ; exact ⟨xF,(Y.block hj h.lt).trans hc⟩,h.hO,h.eqd,h.ndc,h.na⟩
theorem cZ {l:List Od} {v:Value} {b:Nat} {us:List Value} {o:Nat} (h:RdR Od.vs 6 W v l) (hn:l ≠ []→∀ b' off n c,v = .slice (some (U b' off)) n c→b' ≠ b):RdR Od.vs 6 (W.setCells b o us) v l:=by
 obtain ⟨a,cap,rfl,hl,hc⟩:=h
 refine ⟨a,cap,rfl,hl,fun xD=>?_⟩
 obtain ⟨b',off,rfl,Y,V⟩:=hc xD
 have hbn:=hn xD b' off _ _ rfl
 have kc:=bG b b' hbn us o W
 refine ⟨b',off,rfl,?_,fun j c O i u hi=>?_⟩
 ·by_cases xI:b' < (W.setCells b o us).heap.size
  ·exact xI
  ·exfalso
   rw [Array.getElem?_eq_none (by omega),Array.getElem?_eq_getElem Y] at kc
   cases kc
 ·rw [yQ (a:=(U b' (off + j * 6 + i))) kc]
  exact V j c O i u hi
theorem bQ (h:MS hj B W vl vd va g t kd n0 dy l0) (o:Nat) (us:List Value) (hl:o + us.length ≤ 13) (he:msV vl vd va g' t' kd' n0 = (msV vl vd va g t kd n0).take o ++ us ++ (msV vl vd va g t kd n0).drop (o + us.length)) (hll:g'.l = g.l) (hq:g'.bg = 0→n0 = g'.nx∧l0 = g'.l∧vd = .slice none 0 0):MS hj B (W.setCells hj o us) vl vd va g' t' kd' n0 dy l0 :=
 ⟨by rw [he]; exact bx_setAt us o W _ h.box hl,by rw [hll]; exact dX h.nl us o W h.row,cZ h.days h.nd,cZ h.ahd (fun xD b' off n c e=>by have:=h.na xD b' off n c e; have:=h.hO; omega),h.sla,dS us o W h.typ,h.hO,hq,h.ndc,h.na⟩
theorem zL {C:Nat} (Y:Below C w W) (hC:C ≤ B) (h:MS hj B W vl vd va g t kd n0 dy l0) (o:Nat) (us:List Value):Below C w (W.setCells hj o us):=zj hj (yN hC h.hO) us o W Y
end
theorem mdue_any {hj B:Nat} {vl vd va:Value} {g:Gr} {t:Od} {kd n0:Int} {dy l0:List Od} (w:World) (h:MS hj B w vl vd va g t kd n0 dy l0) (hi:GI g) (hm:MR g t kd dy):Calls Tryz.prog 28 #[J hj 0] w fun e w'=>e = .returned (duV (dueG g))∧yn w w':=by
 have hsf:=sfl
 have hO:=h.lt
 rw [← dueM_eq hi hm]
 have xA:g.l.length ≤ 1000:=yN hi.len (by decide)
 have jH:0 ≤ t.left:=by rw [hm.left]; exact hi.l0
 have HNX:Hid (∀ W,RdR Od.vs 6 W vl g.l→Calls Tryz.prog 53 #[vl,.agg (yw t.id t.side t.ticks t.left t.life t.tag).toArray] W fun e w'=>∃ k:Int,e = .returned (I k)∧NexS g.l t k∧yn W w'):=fun W hW=>by
  by_cases h0:t.left = 0
  ·exact l04Next_none vl g.l t W hW hi.rise xA hm.side h0
  ·have Q:g.tk.left ≠ 0:=by rw [← hm.left]; exact h0
   have E:g.bg = 1:=Classical.byContradiction fun h3=>Q (hi.free h3)
   refine fh vl g.l t W hW hi.rise xA ?_
   rw [hm.same Q,((hi.acc E).2.2 Q).1]
   exact side_of (hi.acc E).1
 obtain ⟨xz,HX⟩:=fJ w [I 0,I 0,I 0,I 0,I 0] 29
 have HS:Hid ((w.alloc (A #[I 0,I 0,I 0,I 0,I 0] 29)).heap.size = w.heap.size + 1):=by show _ = _; simp
 have HM:=M (zv h xz)
 have HB:=M xz
 clear h xz hi hm
 obtain ⟨ti,kW,tt,tl,kV,tg⟩:=t
 simp only at jH HNX
 go_enter Tryz.func28,Tryz.ntmps28
 refine fI fun hR HK=>?_
 go_wp2_with fail
 refine H HK _ _ ?_
 clear HK
 generalize (w.alloc (A #[I 0,I 0,I 0,I 0,I 0] 29)) = W1 at HX HS HM HB ⊢
 have xH:=M (H HX)
 have xQ:=M (H HM)
 have xu:=M (H HB)
 have xX:Hid (Bx W1.drew w.heap.size [I 0,I 0,I 0,I 0,I 0]):=zJ (H xH)
 have vN:Hid (MS hj B W1.drew vl vd va g ⟨ti,kW,tt,tl,kV,tg⟩ kd n0 dy l0):=zv (H xQ) ⟨rfl,rfl,rfl,Nat.le_refl _,fun _ _=>rfl⟩
 have vy:Hid (yn w W1.drew):=⟨(H xu).os,(H xu).tape,(H xu).output,(H xu).size,(H xu).block⟩
 have c1:=R (H vN).box 1 rfl
 have c2:=R (H vN).box 2 rfl
 have c3:=R (H vN).box 3 rfl
 have c4:=R (H vN).box 4 rfl
 have c5:=R (H vN).box 5 rfl
 have c6:=R (H vN).box 6 rfl
 have c7:=R (H vN).box 7 rfl
 have hSD:w.heap.size < W1.drew.heap.size:=by show w.heap.size < W1.heap.size; have:=H HS; omega
 have uR:=M (zK (H vN).row (yN xA (by decide)))
 go_wp2_with fail
 refine zE 8 (by kernel_rfl) (by kernel_rfl) ?_
 simp only [yT,List.take_zero,yU,List.drop_zero]
 repeat still_step
 refine wpStill_nil ?_
 go_wp2_with fail
 refine (H HNX W1.drew (H uR)).mono ?_
 rintro e w2 ⟨k,rfl,hN,xJ⟩
 have uC:=M (zg (H xX) xJ hSD)
 have HM3:=M (zv (H vN) xJ)
 have xL:=M (fH (H vy) xJ)
 clear xJ c1 c2 c3 c4 c5 c6 c7 HX HM HB xH xQ xu xX vN vy uR HS hSD HNX
 have xH:=M (H uC)
 have xQ:=M (H HM3)
 have xu:=M (H xL)
 clear uC HM3 xL
 rcases hN with ⟨rfl,qn⟩ | ⟨i,o,rfl,hil,qT,ow,kG,xD⟩
 ·by_cases h0:tl = 0
  ·have HD:Hid (dueM g.l ⟨ti,kW,tt,tl,kV,tg⟩ kd dy = match dy with | o :: _=>⟨9,o.id,0,o.left,0⟩ | []=>zDu):=by show _ = _; unfold dueM; rw [if_neg (by simpa using h0)]; cases dy <;> rfl
   have hp:¬ (0 < tl):=by omega
   clear qn h0
   have c5:=R (H xQ).box 5 rfl
   have c10:=R (H xQ).box 10 rfl
   obtain ⟨a,cap,rfl,aI,hdc⟩:=(H xQ).days
   cases dy with
   | nil =>
    simp only [List.length_nil] at c10 ⊢
    have z0:=R (H xH) 0 rfl
    have z1:=R (H xH) 1 rfl
    have z2:=R (H xH) 2 rfl
    have z3:=R (H xH) 3 rfl
    have z4:=R (H xH) 4 rfl
    have f0:=zd (H xH) 0 (by decide)
    have f1:=zd (H xH) 1 (by decide)
    have f2:=zd (H xH) 2 (by decide)
    have f3:=zd (H xH) 3 (by decide)
    have f4:=zd (H xH) 4 (by decide)
    go_wp2_with fail
    try simp (config:={ zetaDelta:=true }) only [Exit.noGoto_ret]
    change bodyPost _ _ _ _ _ (World.setCells w2 w.heap.size 0 [I 0,I 0,I 0,I 0,I 0])
    have xp:Hid ((World.setCells w2 w.heap.size 0 [I 0,I 0,I 0,I 0,I 0]).rangeAt w.heap.size 0 [I 0,I 0,I 0,I 0,I 0]∧yn w (World.setCells w2 w.heap.size 0 [I 0,I 0,I 0,I 0,I 0])):=⟨(zF (H xH) (by simp only [List.length_cons,List.length_nil])).r,zj w.heap.size (by omega) [I 0,I 0,I 0,I 0,I 0] 0 w2 (H xu)⟩
    generalize World.setCells w2 w.heap.size 0 [I 0,I 0,I 0,I 0,I 0] = WE at xp ⊢
    obtain ⟨d0,d1,d2,d3,d4⟩:=yB (H xp).1
    try simp only [Exit.inBlock,Exit.then]
    refine bodyPost_ret (by simp [results,Tryz.results28,go_sem,d0,d1,d2,d3,d4]; try rfl) rfl ?_
    exact ⟨by rw [H HD]; rfl,(H xp).2⟩
   | cons o dr =>
    obtain ⟨b,off,rfl,kC,V⟩:=hdc (by simp)
    have hlp:(0:Int) < ((o :: dr).length:Int):=by rw [List.length_cons]; omega
    have hlp2:((0:Nat):Int) < ((o :: dr).length:Int):=by rw [List.length_cons]; omega
    obtain ⟨y0,-,-,y3,-,-⟩:=zA (V 0 o rfl)
    simp only [Nat.zero_mul,Nat.add_zero] at y0 y3
    generalize (o :: dr).length = dn at c10 hlp hlp2
    have xX:Hid (Bx w2.drew w.heap.size [I 0,I 0,I 0,I 0,I 0]):=zJ (H xH)
    have vy:Hid (yn w w2.drew):=⟨(H xu).os,(H xu).tape,(H xu).output,(H xu).size,(H xu).block⟩
    go_wp2_with fail
    have kz:w2.drew.cell? (U hj 10) = _:=c10
    have y0d:w2.drew.cell? (U b off) = some (I o.id):=y0
    have y3d:w2.drew.cell? (U b (off + 3)) = some (I o.left):=y3
    refine zE 15 (by kernel_rfl) (by kernel_rfl) ?_
    simp only [yT,List.take_zero,yU,List.drop_zero]
    repeat still_step
    refine wpStill_nil ?_
    clear kz y0d y3d y0 y3 c5 c10 xH xQ xu
    generalize w2.drew = hb at xX vy ⊢
    have z0:=R (H xX) 0 rfl
    have z1:=R (H xX) 1 rfl
    have z2:=R (H xX) 2 rfl
    have z3:=R (H xX) 3 rfl
    have z4:=R (H xX) 4 rfl
    have f0:=zd (H xX) 0 (by decide)
    have f1:=zd (H xX) 1 (by decide)
    have f2:=zd (H xX) 2 (by decide)
    have f3:=zd (H xX) 3 (by decide)
    have f4:=zd (H xX) 4 (by decide)
    go_wp2_with fail
    try simp (config:={ zetaDelta:=true }) only [Exit.noGoto_ret]
    change bodyPost _ _ _ _ _ (World.setCells hb w.heap.size 0 [I 9,I o.id,I 0,I o.left,I 0])
    have xp:Hid ((World.setCells hb w.heap.size 0 [I 9,I o.id,I 0,I o.left,I 0]).rangeAt w.heap.size 0 [I 9,I o.id,I 0,I o.left,I 0]∧yn w (World.setCells hb w.heap.size 0 [I 9,I o.id,I 0,I o.left,I 0])):=⟨(zF (H xX) (by simp only [List.length_cons,List.length_nil])).r,zj w.heap.size (by omega) [I 9,I o.id,I 0,I o.left,I 0] 0 hb (H vy)⟩
    generalize World.setCells hb w.heap.size 0 [I 9,I o.id,I 0,I o.left,I 0] = WE at xp ⊢
    obtain ⟨d0,d1,d2,d3,d4⟩:=yB (H xp).1
    try simp only [Exit.inBlock,Exit.then]
    refine bodyPost_ret (by simp [results,Tryz.results28,go_sem,d0,d1,d2,d3,d4]; try rfl) rfl ?_
    exact ⟨by rw [H HD]; rfl,(H xp).2⟩
  ·have HD:Hid (dueM g.l ⟨ti,kW,tt,tl,kV,tg⟩ kd dy = ⟨if ba kd = true then 4 else 5,ti,0,tl,0⟩):=by
    show _ = _
    unfold dueM
    rw [if_pos (by simpa using h0)]
    rcases qn with Q | Q | ⟨o,Q,E⟩
    ·exact absurd Q h0
    ·rw [Q]; rfl
    ·rw [Q]; simp only [E]; rfl
   have hp:0 < tl:=by omega
   clear qn h0
   have c2:=R (H xQ).box 2 rfl
   have c5:=R (H xQ).box 5 rfl
   have c8:=R (H xQ).box 8 rfl
   cases ji:ba kd
   ·have HD2:=M (H HD)
    rw [ji,if_neg (by simp)] at HD2
    have vk:Hid (∀ W,Calls Tryz.prog 54 #[I kd] W fun e w'=>e = .returned (.bool false)∧w' = W):=fun W=>by rw [← ji]; exact cT kd W
    clear ji HD
    go_wp2_with fail
    refine (H vk w2).mono ?_
    rintro e w3 ⟨rfl,oR⟩
    rw [oR]
    clear oR
    have xX:Hid (Bx w2.drew w.heap.size [I 0,I 0,I 0,I 0,I 0]):=zJ (H xH)
    have vy:Hid (yn w w2.drew):=⟨(H xu).os,(H xu).tape,(H xu).output,(H xu).size,(H xu).block⟩
    go_wp2_with fail
    have d2:w2.drew.cell? (U hj 2) = _:=c2
    have d5:w2.drew.cell? (U hj 5) = _:=c5
    refine zE 12 (by kernel_rfl) (by kernel_rfl) ?_
    simp only [yT,List.take_zero,yU,List.drop_zero]
    repeat still_step
    refine wpStill_nil ?_
    clear d2 d5 c2 c5 c8 xH xQ xu vk
    generalize w2.drew = hb at xX vy ⊢
    have z0:=R (H xX) 0 rfl
    have z1:=R (H xX) 1 rfl
    have z2:=R (H xX) 2 rfl
    have z3:=R (H xX) 3 rfl
    have z4:=R (H xX) 4 rfl
    have f0:=zd (H xX) 0 (by decide)
    have f1:=zd (H xX) 1 (by decide)
    have f2:=zd (H xX) 2 (by decide)
    have f3:=zd (H xX) 3 (by decide)
    have f4:=zd (H xX) 4 (by decide)
    go_wp2_with fail
    try simp (config:={ zetaDelta:=true }) only [Exit.noGoto_ret]
    change bodyPost _ _ _ _ _ (World.setCells hb w.heap.size 0 [I 5,I ti,I 0,I tl,I 0])
    have xp:Hid ((World.setCells hb w.heap.size 0 [I 5,I ti,I 0,I tl,I 0]).rangeAt w.heap.size 0 [I 5,I ti,I 0,I tl,I 0]∧yn w (World.setCells hb w.heap.size 0 [I 5,I ti,I 0,I tl,I 0])):=⟨(zF (H xX) (by simp only [List.length_cons,List.length_nil])).r,zj w.heap.size (by omega) [I 5,I ti,I 0,I tl,I 0] 0 hb (H vy)⟩
    generalize World.setCells hb w.heap.size 0 [I 5,I ti,I 0,I tl,I 0] = WE at xp ⊢
    obtain ⟨d0,d1,d2,d3,d4⟩:=yB (H xp).1
    try simp only [Exit.inBlock,Exit.then]
    refine bodyPost_ret (by simp [results,Tryz.results28,go_sem,d0,d1,d2,d3,d4]; try rfl) rfl ?_
    exact ⟨by rw [H HD2]; rfl,(H xp).2⟩
   ·have HD2:=M (H HD)
    rw [ji,if_pos rfl] at HD2
    have vk:Hid (∀ W,Calls Tryz.prog 54 #[I kd] W fun e w'=>e = .returned (.bool true)∧w' = W):=fun W=>by rw [← ji]; exact cT kd W
    clear ji HD
    go_wp2_with fail
    refine (H vk w2).mono ?_
    rintro e w3 ⟨rfl,oR⟩
    rw [oR]
    clear oR
    have xX:Hid (Bx w2.drew w.heap.size [I 0,I 0,I 0,I 0,I 0]):=zJ (H xH)
    have vy:Hid (yn w w2.drew):=⟨(H xu).os,(H xu).tape,(H xu).output,(H xu).size,(H xu).block⟩
    go_wp2_with fail
    have d2:w2.drew.cell? (U hj 2) = _:=c2
    have d5:w2.drew.cell? (U hj 5) = _:=c5
    refine zE 12 (by kernel_rfl) (by kernel_rfl) ?_
    simp only [yT,List.take_zero,yU,List.drop_zero]
    repeat still_step
    refine wpStill_nil ?_
    clear d2 d5 c2 c5 c8 xH xQ xu vk
    generalize w2.drew = hb at xX vy ⊢
    have z0:=R (H xX) 0 rfl
    have z1:=R (H xX) 1 rfl
    have z2:=R (H xX) 2 rfl
    have z3:=R (H xX) 3 rfl
    have z4:=R (H xX) 4 rfl
    have f0:=zd (H xX) 0 (by decide)
    have f1:=zd (H xX) 1 (by decide)
    have f2:=zd (H xX) 2 (by decide)
    have f3:=zd (H xX) 3 (by decide)
    have f4:=zd (H xX) 4 (by decide)
    go_wp2_with fail
    try simp (config:={ zetaDelta:=true }) only [Exit.noGoto_ret]
    change bodyPost _ _ _ _ _ (World.setCells hb w.heap.size 0 [I 4,I ti,I 0,I tl,I 0])
    have xp:Hid ((World.setCells hb w.heap.size 0 [I 4,I ti,I 0,I tl,I 0]).rangeAt w.heap.size 0 [I 4,I ti,I 0,I tl,I 0]∧yn w (World.setCells hb w.heap.size 0 [I 4,I ti,I 0,I tl,I 0])):=⟨(zF (H xX) (by simp only [List.length_cons,List.length_nil])).r,zj w.heap.size (by omega) [I 4,I ti,I 0,I tl,I 0] 0 hb (H vy)⟩
    generalize World.setCells hb w.heap.size 0 [I 4,I ti,I 0,I tl,I 0] = WE at xp ⊢
    obtain ⟨d0,d1,d2,d3,d4⟩:=yB (H xp).1
    try simp only [Exit.inBlock,Exit.then]
    refine bodyPost_ret (by simp [results,Tryz.results28,go_sem,d0,d1,d2,d3,d4]; try rfl) rfl ?_
    exact ⟨by rw [H HD2]; rfl,(H xp).2⟩
 ·have HD:Hid (dueM g.l ⟨ti,kW,tt,tl,kV,tg⟩ kd dy = ⟨3,ti,o.id,min tl o.left,o.ticks⟩):=by
   show _ = _
   unfold dueM
   rw [if_pos (by simpa using xD),ow]
   simp only [kG]
   rfl
  generalize hq:min tl o.left = q at HD
  have hmin:∀ W,(Builtin.min_ #[3,3] 3 #[I tl,I o.left]).run Tryz.prog W = .ok (I q) W:=fun W=>by
   rw [← hq]
   by_cases qi:tl ≤ o.left
   ·rw [Int.min_eq_left qi]; go_simp; omega
   ·rw [Int.min_eq_right (by omega)]; go_simp
  obtain ⟨a,cap,rfl,aI,hdc⟩:=zK (H xQ).row (yN xA (by decide))
  obtain ⟨b,off,rfl,kC,V⟩:=hdc (by intro h; rw [h] at qT; simp at qT)
  obtain ⟨y0,-,y2,y3,-,-⟩:=zA (V i o qT)
  have hil':(i:Int) < g.l.length:=by omega
  have vA:(0:Int) ≤ i:=by omega
  have c1:=R (H xQ).box 1 rfl
  have c2:=R (H xQ).box 2 rfl
  have c5:=R (H xQ).box 5 rfl
  clear ow kG xD hq qT V hdc hil
  have xX:Hid (Bx w2.drew w.heap.size [I 0,I 0,I 0,I 0,I 0]):=zJ (H xH)
  have vy:Hid (yn w w2.drew):=⟨(H xu).os,(H xu).tape,(H xu).output,(H xu).size,(H xu).block⟩
  go_wp2_with fail
  have d1:w2.drew.cell? (U hj 1) = _:=c1
  have d2:w2.drew.cell? (U hj 2) = _:=c2
  have d5:w2.drew.cell? (U hj 5) = _:=c5
  have y0d:w2.drew.cell? (U b (off + i * 6)) = some (I o.id):=y0
  have y2d:w2.drew.cell? (U b (off + i * 6 + 2)) = some (I o.ticks):=y2
  have y3d:w2.drew.cell? (U b (off + i * 6 + 3)) = some (I o.left):=y3
  refine zE 36 (by kernel_rfl) (by kernel_rfl) ?_
  simp only [yT,List.take_zero,yU,List.drop_zero]
  repeat still_step
  refine wpStill_nil ?_
  clear d1 d2 d5 y0d y2d y3d y0 y2 y3 c1 c2 c5 xH xQ xu
  generalize w2.drew = hb at xX vy ⊢
  have z0:=R (H xX) 0 rfl
  have z1:=R (H xX) 1 rfl
  have z2:=R (H xX) 2 rfl
  have z3:=R (H xX) 3 rfl
  have z4:=R (H xX) 4 rfl
  have f0:=zd (H xX) 0 (by decide)
  have f1:=zd (H xX) 1 (by decide)
  have f2:=zd (H xX) 2 (by decide)
  have f3:=zd (H xX) 3 (by decide)
  have f4:=zd (H xX) 4 (by decide)
  go_wp2_with fail
  try simp (config:={ zetaDelta:=true }) only [Exit.noGoto_ret]
  change bodyPost _ _ _ _ _ (World.setCells hb w.heap.size 0 [I 3,I ti,I o.id,I q,I o.ticks])
  have xp:Hid ((World.setCells hb w.heap.size 0 [I 3,I ti,I o.id,I q,I o.ticks]).rangeAt w.heap.size 0 [I 3,I ti,I o.id,I q,I o.ticks]∧yn w (World.setCells hb w.heap.size 0 [I 3,I ti,I o.id,I q,I o.ticks])):=⟨(zF (H xX) (by simp only [List.length_cons,List.length_nil])).r,zj w.heap.size (by omega) [I 3,I ti,I o.id,I q,I o.ticks] 0 hb (H vy)⟩
  generalize World.setCells hb w.heap.size 0 [I 3,I ti,I o.id,I q,I o.ticks] = WE at xp ⊢
  obtain ⟨d0,d1,d2,d3,d4⟩:=yB (H xp).1
  try simp only [Exit.inBlock,Exit.then]
  refine bodyPost_ret (by simp [results,Tryz.results28,go_sem,d0,d1,d2,d3,d4]; try rfl) rfl ?_
  exact ⟨by rw [H HD]; rfl,(H xp).2⟩
end Go.Proofs.YtnphbkgfjanmgaaGreatDoor
