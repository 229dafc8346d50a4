/-
  Why a command is refused, by the model: proved by walking the functions.
-/
import Derived.Test.YtnphbkgfjanmgaaGreatDoorDj33
set_option linter.unusedVariables false
set_option maxHeartbeats 6400000
set_option maxRecDepth 100000
namespace Go.Proofs.YtnphbkgfjanmgaaGreatDoor
open Go.RowKit
theorem okS_sides {next:Int} {l:List Od} (h:okS next l = true):∀ x ∈ l,x.side = 1 ∨ x.side = 2:=by
 simp only [okS,xf,xg] at h
 obtain ⟨⟨⟨N,Y⟩,h4⟩,_⟩:=h
 intro o Z
 have:=eD h4 o Z
 simp [ordB,betB] at this
 omega
theorem dW (next:Int) (vb:Value) (l:List Od) (c:Cm) (w:World) (hr:RdR Od.vs 6 w vb l) (hs:SlOk vb) (hg:GoodL l) (uS:∀ x ∈ l,x.side = 1 ∨ x.side = 2) (ht:c.g.size ≤ maxLen) :
  Calls Tryz.prog 106 #[.agg #[I next,vb],cmV c] w fun e w'=>e = .returned (I (refS next l c))∧yp w w':=by
 have HNW:=H (fun W hW=>l04New_any next vb l c W hW hs hg uS ht)
 have vX:=H (fun W=>l04Form_any c W)
 have hlen20:=hg.len
 generalize jg:refS next l c = res
 have vn:=H jg.symm
 generalize hnr:newR next l c = nr at HNW
 have kr:=H hnr
 clear hg uS ht jg hnr
 obtain ⟨kk,s,ty,li,qt,ii,pr,tg⟩:=c
 unfold cmV at HNW vX ⊢
 simp only at HNW vX ⊢
 have HR:=H hr
 have km:=H hs
 obtain ⟨a,cap,rfl,xA,hc⟩:=hr
 have xt:∀ (k:Nat) (c:Od),l[k]? = some c→∃ b off,a = some (Q b off)∧b < w.heap.size∧w.rangeAt b (off + k * 6) c.vs:=by
  intro k c hk
  obtain ⟨b,off,N,Y,h3⟩:=hc (by intro h; rw [h] at hk; simp at hk)
  exact ⟨b,off,N,Y,h3 k c hk⟩
 have HC:=H xt
 clear xt hc xA hs
 have xK:=zj w (L #[I next,.slice a l.length cap] 34)
 have uf:((w.alloc (L #[I next,.slice a l.length cap] 34)).alloc (L (yy kk s ty li qt ii pr tg).toArray 50)).heap.size = w.heap.size + 1 + 1:=by rw [zj,xK]
 have r1:=zn w [I next,.slice a l.length cap] 34
 have r2:=zn (w.alloc (L #[I next,.slice a l.length cap] 34)) (yy kk s ty li qt ii pr tg) 50
 rw [xK] at r2
 have qv:Below (w.heap.size + 1) (w.alloc (L #[I next,.slice a l.length cap] 34)) ((w.alloc (L #[I next,.slice a l.length cap] 34)).alloc (L (yy kk s ty li qt ii pr tg).toArray 50)):=(Below.refl _ _).alloc (by rw [xK]; omega) _
 have xw:Hid (yp w ((w.alloc (L #[I next,.slice a l.length cap] 34)).alloc (L (yy kk s ty li qt ii pr tg).toArray 50))):=(fw _ _).alloc (by rw [xK]; omega) _
 have HX:Hid (_∧_):=⟨zc r1 qv (by omega),r2⟩
 have uu:Hid (w.heap.size + 1 < ((w.alloc (L #[I next,.slice a l.length cap] 34)).alloc (L (yy kk s ty li qt ii pr tg).toArray 50)).heap.size):=by show _ < _; omega
 clear xK uf r1 r2 qv
 go_enter Tryz.func106,Tryz.ntmps106
 refine fD fun zb xU=>?_
 go_wp2_with fail
 refine U xU _ _ ?_
 clear xU
 generalize ((w.alloc (L #[I next,.slice a l.length cap] 34)).alloc (L (yy kk s ty li qt ii pr tg).toArray 50)) = X2 at xw HX uu ⊢
 have HX:Hid (X2.rangeAt w.heap.size 0 [I next,.slice a l.length cap]∧X2.rangeAt (w.heap.size + 1) 0 (yy kk s ty li qt ii pr tg)):=U HX
 have k0:X2.cell? (Q w.heap.size 0) = some (I next):=(U HX).1 0 _ rfl
 have k1:X2.cell? (Q w.heap.size 1) = some (.slice a l.length cap):=(U HX).1 1 _ rfl
 obtain ⟨o0,o1,o2,o3,o4,o5,o6,o7⟩:=yE (U HX).2
 cases bk:betB kk 1 4
 ·have HK:Hid (res = 1):=(U vn).trans (by simp [refS,bk])
  go_wp2_with (first | (go_at_call 47; refine (bJ _ _ _ _).mono ?_; rintro e w' ⟨rfl,un⟩; rw [un]; clear un w'))
  go_ret
  exact ⟨zA (U HK).symm,U xw⟩
 go_wp2_with (first | (go_at_call 47; refine (bJ _ _ _ _).mono ?_; rintro e w' ⟨rfl,un⟩; rw [un]; clear un w'))
 refine (U vX _).mono ?_
 cases bf:aY ⟨kk,s,ty,li,qt,ii,pr,tg⟩
 ·rintro e w3 ⟨rfl,xQ⟩
  have xN:=H (fC (U xw) xQ)
  have HK:Hid (res = 2):=(U vn).trans (by simp [refS,bk,bf])
  clear xQ bf bk
  go_wp2_with fail
  go_ret
  exact ⟨zA (U HK).symm,U xN⟩
 rintro e w3 ⟨rfl,xQ⟩
 have xN:=H (fC (U xw) xQ)
 have uP:Hid (w3.rangeAt w.heap.size 0 [I next,.slice a l.length cap]∧w3.rangeAt (w.heap.size + 1) 0 (yy kk s ty li qt ii pr tg)):=⟨zc (U HX).1 xQ (by have:=U uu; omega),zc (U HX).2 xQ (U uu)⟩
 have hl3:w.heap.size + 1 < w3.heap.size:=yK (U uu) xQ.size
 clear xQ HX xw uu
 clear k0 k1 o0 o1 o2 o3 o4 o5 o6 o7
 have k0:w3.cell? (Q w.heap.size 0) = some (I next):=(U uP).1 0 _ rfl
 have k1:w3.cell? (Q w.heap.size 1) = some (.slice a l.length cap):=(U uP).1 1 _ rfl
 obtain ⟨o0,o1,o2,o3,o4,o5,o6,o7⟩:=yE (U uP).2
 by_cases N:kk = 1
 ·subst N
  have HK:Hid (res = nr):=(U vn).trans (by rw [← U kr]; simp [refS,bk,bf])
  clear bk bf vn kr
  go_wp2_with fail
  refine (U HNW w3 (zh (U HR) (U xN) yb)).mono ?_
  rintro e w4 ⟨rfl,xy⟩
  have xH:=H (fC (U xN) xy)
  clear xy
  go_wp2_with fail
  go_ret
  exact ⟨zA (U HK).symm,U xH⟩
 by_cases h4:kk = 4
 ·subst h4
  have HK:Hid (res = 0):=(U vn).trans (by simp [refS,bk,bf])
  clear bk bf vn kr
  go_wp2_with fail
  go_ret
  exact ⟨zA (U HK).symm,U xN⟩
 have b1:(kk == 1) = false:=by rw [xe]; exact N
 have b4:(kk == 4) = false:=by rw [xe]; exact h4
 by_cases h3:kk = 3
 ·subst h3
  cases bq:betB qt 1 1000000
  ·have HK:Hid (res = 7):=(U vn).trans (by simp [refS,bk,bf,bq])
   clear bk bf vn kr
   go_wp2_with (first | (go_at_call 47; refine (bJ _ _ _ _).mono ?_; rintro e w' ⟨rfl,un⟩; rw [un]; clear un w'))
   go_ret
   exact ⟨zA (U HK).symm,U xN⟩
  have HRF:Hid (res = if plc l ii < 0 then 9 else match l[(plc l ii).toNat]? with | some o=>if o.left ≤ qt then 10 else 0 | none=>0):=(U vn).trans (by simp [refS,bk,bf,bq]; cases l[(plc l ii).toNat]? <;> rfl)
  clear bk bf vn kr N h4
  go_wp2_with (first | (go_at_call 47; refine (bJ _ _ _ _).mono ?_; rintro e w' ⟨rfl,un⟩; rw [un]; clear un w'))
  refine (cX _ l ii w3 (zh (U HR) (U xN) yb)).mono ?_
  rintro e w4 ⟨rfl,xy⟩
  have xH:=H (fC (U xN) xy)
  have xG:Hid (w4.rangeAt w.heap.size 0 [I next,.slice a l.length cap]∧w4.rangeAt (w.heap.size + 1) 0 (yy 3 s ty li qt ii pr tg)):=⟨zc (U uP).1 xy (by omega),zc (U uP).2 xy hl3⟩
  clear xy
  clear k0 k1 o0 o1 o2 o3 o4 o5 o6 o7
  have k0:w4.cell? (Q w.heap.size 0) = some (I next):=(U xG).1 0 _ rfl
  have k1:w4.cell? (Q w.heap.size 1) = some (.slice a l.length cap):=(U xG).1 1 _ rfl
  obtain ⟨o0,o1,o2,o3,o4,o5,o6,o7⟩:=yE (U xG).2
  rcases plc_cases l ii with e | ⟨k,o,e,Z⟩
  ·have HK:Hid (res = 9):=(U HRF).trans (by rw [e]; rfl)
   rw [e]
   clear e
   go_wp2_with fail
   go_ret
   exact ⟨zA (U HK).symm,U xH⟩
  ·have HRF:Hid (res = if o.left ≤ qt then 10 else 0):=(U HRF).trans (by rw [e,if_neg (by omega)]; simp [Z])
   obtain ⟨b,off,rfl,E,X⟩:=U HC k o Z
   have oW:=(yH.1 Z).1
   have c3:w4.cell? (Q b (off + k * 6 + 3)) = some (I o.left):=zc X (U xH) E 3 _ rfl
   have oJ:(k:Int) < l.length:=by omega
   have pw:(0:Int) ≤ k:=by omega
   have hkn:¬ (k:Int) < 0:=by omega
   rw [e]
   clear e Z X E oW
   by_cases hq:o.left ≤ qt
   ·have HK:Hid (res = 10):=(U HRF).trans (if_pos hq)
    have hq':decide (o.left ≤ qt) = true:=by simpa using hq
    go_wp2_with fail
    go_quiet (fail)
    go_wp2_with fail
    go_ret
    exact ⟨zA (U HK).symm,zV (U xH) _⟩
   ·have HK:Hid (res = 0):=(U HRF).trans (if_neg hq)
    have hq':decide (o.left ≤ qt) = false:=by simpa using hq
    go_wp2_with fail
    go_quiet (fail)
    go_wp2_with fail
    go_ret
    exact ⟨zA (U HK).symm,zV (U xH) _⟩
 ·have b3:(kk == 3) = false:=by rw [xe]; exact h3
  have HRF:Hid (res = if plc l ii < 0 then 9 else 0):=(U vn).trans (by
   have hx:¬ (kk = 3∧betB qt 1 1000000 = false):=fun h=>h3 h.1
   have hy:∀ o:Od,¬ (kk = 3∧o.left ≤ qt):=fun o h=>h3 h.1
   simp only [refS]
   rw [if_neg (by rw [bk]; simp),if_neg (by rw [bf]; simp),if_neg N,if_neg h4,if_neg hx]
   by_cases hp:plc l ii < 0
   ·rw [if_pos hp,if_pos hp]
   ·rw [if_neg hp,if_neg hp]
    cases l[(plc l ii).toNat]? with
    | none=>rfl
    | some o=>exact if_neg (hy o))
  clear bk bf vn kr N h4 h3
  go_wp2_with fail
  refine (cX _ l ii w3 (zh (U HR) (U xN) yb)).mono ?_
  rintro e w4 ⟨rfl,xy⟩
  have xH:=H (fC (U xN) xy)
  have xG:Hid (w4.rangeAt w.heap.size 0 [I next,.slice a l.length cap]∧w4.rangeAt (w.heap.size + 1) 0 (yy kk s ty li qt ii pr tg)):=⟨zc (U uP).1 xy (by omega),zc (U uP).2 xy hl3⟩
  clear xy
  clear k0 k1 o0 o1 o2 o3 o4 o5 o6 o7
  have k0:w4.cell? (Q w.heap.size 0) = some (I next):=(U xG).1 0 _ rfl
  have k1:w4.cell? (Q w.heap.size 1) = some (.slice a l.length cap):=(U xG).1 1 _ rfl
  obtain ⟨o0,o1,o2,o3,o4,o5,o6,o7⟩:=yE (U xG).2
  by_cases hp:plc l ii < 0
  ·have HK:Hid (res = 9):=(U HRF).trans (if_pos hp)
   go_wp2_with fail
   go_ret
   exact ⟨zA (U HK).symm,U xH⟩
  ·have HK:Hid (res = 0):=(U HRF).trans (if_neg hp)
   have hp':decide (plc l ii < 0) = false:=by simpa using hp
   go_wp2_with fail
   go_quiet (fail)
   go_wp2_with fail
   go_ret
   exact ⟨zA (U HK).symm,zV (U xH) _⟩
def msV (vl vd va:Value) (g:Gr) (t:Od) (kd n0:Int):List Value:=[I g.nx,vl,I t.id,I t.side,I t.ticks,I t.left,I t.life,yl t.tag,I kd,.bool (g.bg != 0),vd,I n0,va]
structure MS (cp B:Nat) (W:World) (vl vd va:Value) (g:Gr) (t:Od) (kd n0:Int) (dy l0:List Od):Prop where
 box:Bx W cp (msV vl vd va g t kd n0)
 row:ORow W B vl g.l
 days:RdR Od.vs 6 W vd dy
 ahd:RdR Od.vs 6 W va l0
 sla:SlOk va
 typ:∃ cur,W.heap[cp]? = some (.cells cur 80 (0,0))
 hO:B ≤ cp
 eqd:g.bg = 0→n0 = g.nx∧l0 = g.l∧vd = .slice none 0 0
 ndc:dy ≠ []→∀ b off n c,vd = .slice (some ⟨b,off,none⟩) n c→b ≠ cp∧n ≤ c
 na:l0 ≠ []→∀ b off n c,va = .slice (some ⟨b,off,none⟩) n c→b < B
section
variable {cp B:Nat} {w W W':World} {vl vd va:Value} {g g':Gr} {t t':Od} {kd kd' n0:Int} {dy l0:List Od}
theorem MS.lt (h:MS cp B W vl vd va g t kd n0 dy l0):cp < W.heap.size:=by
 obtain ⟨xF,hc⟩:=h.typ
 exact (yZ.1 hc).1
theorem MS.eqn (h:MS cp B W vl vd va g t kd n0 dy l0) (E:g.bg = 0):n0 = g.nx∧l0 = g.l:=⟨(h.eqd E).1,(h.eqd E).2.1⟩
theorem MS.nd (h:MS cp B W vl vd va g t kd n0 dy l0) (hd:dy ≠ []) (b off n c:Nat) (e:vd = .slice (some (Q b off)) n c):b ≠ cp:=(h.ndc hd b off n c e).1
theorem MS.base (h:MS cp B W vl vd va g t kd n0 dy l0):B ≤ W.heap.size:=yO h.hO (Nat.le_of_lt h.lt)
theorem MS.nl (h:MS cp B W vl vd va g t kd n0 dy l0):some cp ≠ vl.ownBlock:=bU h.row h.typ (by decide)
theorem zv (h:MS cp B W vl vd va g t kd n0 dy l0) (E:yp W W'):MS cp B W' vl vd va g t kd n0 dy l0 :=
 ⟨zf h.box E h.lt,zM h.row E,zh h.days E yb,zh h.ahd E yb,h.sla,by obtain ⟨xF,hc⟩:=h.typ; exact ⟨xF,(E.block cp h.lt).trans hc⟩,h.hO,h.eqd,h.ndc,h.na⟩
theorem cR {l:List Od} {v:Value} {b:Nat} {us:List Value} {o:Nat} (h:RdR Od.vs 6 W v l) (hn:l ≠ []→∀ b' off n c,v = .slice (some (Q b' off)) n c→b' ≠ b):RdR Od.vs 6 (W.setCells b o us) v l:=by
 obtain ⟨a,cap,rfl,hl,hc⟩:=h
 refine ⟨a,cap,rfl,hl,fun xD=>?_⟩
 obtain ⟨b',off,rfl,E,X⟩:=hc xD
 have hbn:=hn xD b' off _ _ rfl
 have kc:=bA b b' hbn us o W
 refine ⟨b',off,rfl,?_,fun j c V i u hi=>?_⟩
 ·by_cases xJ:b' < (W.setCells b o us).heap.size
  ·exact xJ
  ·exfalso
   rw [Array.getElem?_eq_none (by omega),Array.getElem?_eq_getElem E] at kc
   cases kc
 ·rw [yR (a:=(Q b' (off + j * 6 + i))) kc]
  exact X j c V i u hi
theorem bK (h:MS cp B W vl vd va g t kd n0 dy l0) (o:Nat) (us:List Value) (hl:o + us.length ≤ 13) (he:msV vl vd va g' t' kd' n0 = (msV vl vd va g t kd n0).take o ++ us ++ (msV vl vd va g t kd n0).drop (o + us.length)) (hll:g'.l = g.l) (hq:g'.bg = 0→n0 = g'.nx∧l0 = g'.l∧vd = .slice none 0 0):MS cp B (W.setCells cp o us) vl vd va g' t' kd' n0 dy l0 :=
 ⟨by rw [he]; exact bx_setAt us o W _ h.box hl,by rw [hll]; exact dS h.nl us o W h.row,cR h.days h.nd,cR h.ahd (fun xD b' off n c e=>by have:=h.na xD b' off n c e; have:=h.hO; omega),h.sla,dN us o W h.typ,h.hO,hq,h.ndc,h.na⟩
theorem zL {C:Nat} (E:Below C w W) (hC:C ≤ B) (h:MS cp B W vl vd va g t kd n0 dy l0) (o:Nat) (us:List Value):Below C w (W.setCells cp o us):=zi cp (yO hC h.hO) us o W E
end
theorem mdue_any {cp B:Nat} {vl vd va:Value} {g:Gr} {t:Od} {kd n0:Int} {dy l0:List Od} (w:World) (h:MS cp B w vl vd va g t kd n0 dy l0) (hi:GI g) (hm:MR g t kd dy):Calls Tryz.prog 28 #[J cp 0] w fun e w'=>e = .returned (duV (dueG g))∧yp w w':=by
 have hsf:=sfl
 have hO:=h.lt
 rw [← dueM_eq hi hm]
 have xA:g.l.length ≤ 1000:=yO hi.len (by decide)
 have jH:0 ≤ t.left:=by rw [hm.left]; exact hi.l0
 have HNX:Hid (∀ W,RdR Od.vs 6 W vl g.l→Calls Tryz.prog 53 #[vl,.agg (yx t.id t.side t.ticks t.left t.life t.tag).toArray] W fun e w'=>∃ k:Int,e = .returned (I k)∧NexS g.l t k∧yp W w'):=fun W hW=>by
  by_cases h0:t.left = 0
  ·exact l04Next_none vl g.l t W hW hi.rise xA hm.side h0
  ·have N:g.tk.left ≠ 0:=by rw [← hm.left]; exact h0
   have Y:g.bg = 1:=Classical.byContradiction fun h3=>N (hi.free h3)
   refine eX vl g.l t W hW hi.rise xA ?_
   rw [hm.same N,((hi.acc Y).2.2 N).1]
   exact side_of (hi.acc Y).1
 obtain ⟨xz,HX⟩:=fE w [I 0,I 0,I 0,I 0,I 0] 29
 have HS:Hid ((w.alloc (L #[I 0,I 0,I 0,I 0,I 0] 29)).heap.size = w.heap.size + 1):=by show _ = _; simp
 have HM:=H (zv h xz)
 have HB:=H xz
 clear h xz hi hm
 obtain ⟨ti,kT,tt,tl,kS,tg⟩:=t
 simp only at jH HNX
 go_enter Tryz.func28,Tryz.ntmps28
 refine fD fun zb HK=>?_
 go_wp2_with fail
 refine U HK _ _ ?_
 clear HK
 generalize (w.alloc (L #[I 0,I 0,I 0,I 0,I 0] 29)) = W1 at HX HS HM HB ⊢
 have xI:=H (U HX)
 have xR:=H (U HM)
 have xw:=H (U HB)
 have xY:Hid (Bx W1.drew w.heap.size [I 0,I 0,I 0,I 0,I 0]):=zJ (U xI)
 have vN:Hid (MS cp B W1.drew vl vd va g ⟨ti,kT,tt,tl,kS,tg⟩ kd n0 dy l0):=zv (U xR) ⟨rfl,rfl,rfl,Nat.le_refl _,fun _ _=>rfl⟩
 have vv:Hid (yp w W1.drew):=⟨(U xw).os,(U xw).tape,(U xw).output,(U xw).size,(U xw).block⟩
 have c1:=K (U vN).box 1 rfl
 have c2:=K (U vN).box 2 rfl
 have c3:=K (U vN).box 3 rfl
 have c4:=K (U vN).box 4 rfl
 have c5:=K (U vN).box 5 rfl
 have c6:=K (U vN).box 6 rfl
 have c7:=K (U vN).box 7 rfl
 have hSD:w.heap.size < W1.drew.heap.size:=by show w.heap.size < W1.heap.size; have:=U HS; omega
 have uN:=H (zK (U vN).row (yO xA (by decide)))
 go_wp2_with fail
 refine zE 8 (by kernel_rfl) (by kernel_rfl) ?_
 simp only [yU,List.take_zero,yV,List.drop_zero]
 repeat still_step
 refine wpStill_nil ?_
 go_wp2_with fail
 refine (U HNX W1.drew (U uN)).mono ?_
 rintro e w2 ⟨k,rfl,hN,xL⟩
 have uP:=H (zf (U xY) xL hSD)
 have HM3:=H (zv (U vN) xL)
 have xN:=H (fC (U vv) xL)
 clear xL c1 c2 c3 c4 c5 c6 c7 HX HM HB xI xR xw xY vN vv uN HS hSD HNX
 have xI:=H (U uP)
 have xR:=H (U HM3)
 have xw:=H (U xN)
 clear uP HM3 xN
 rcases hN with ⟨rfl,qm⟩ | ⟨i,o,rfl,hil,qQ,oq,kC,xD⟩
 ·by_cases h0:tl = 0
  ·have HD:Hid (dueM g.l ⟨ti,kT,tt,tl,kS,tg⟩ kd dy = match dy with | o :: _=>⟨9,o.id,0,o.left,0⟩ | []=>zDu):=by show _ = _; unfold dueM; rw [if_neg (by simpa using h0)]; cases dy <;> rfl
   have hp:¬ (0 < tl):=by omega
   clear qm h0
   have c5:=K (U xR).box 5 rfl
   have c10:=K (U xR).box 10 rfl
   obtain ⟨a,cap,rfl,aE,hdc⟩:=(U xR).days
   cases dy with
   | nil =>
    simp only [List.length_nil] at c10 ⊢
    have z0:=K (U xI) 0 rfl
    have z1:=K (U xI) 1 rfl
    have z2:=K (U xI) 2 rfl
    have z3:=K (U xI) 3 rfl
    have z4:=K (U xI) 4 rfl
    have f0:=zd (U xI) 0 (by decide)
    have f1:=zd (U xI) 1 (by decide)
    have f2:=zd (U xI) 2 (by decide)
    have f3:=zd (U xI) 3 (by decide)
    have f4:=zd (U xI) 4 (by decide)
    go_wp2_with fail
    try simp (config:={ zetaDelta:=true }) only [Exit.noGoto_ret]
    change bodyPost _ _ _ _ _ (World.setCells w2 w.heap.size 0 [I 0,I 0,I 0,I 0,I 0])
    have xp:Hid ((World.setCells w2 w.heap.size 0 [I 0,I 0,I 0,I 0,I 0]).rangeAt w.heap.size 0 [I 0,I 0,I 0,I 0,I 0]∧yp w (World.setCells w2 w.heap.size 0 [I 0,I 0,I 0,I 0,I 0])):=⟨(zw (U xI) (by simp only [List.length_cons,List.length_nil])).r,zi w.heap.size (by omega) [I 0,I 0,I 0,I 0,I 0] 0 w2 (U xw)⟩
    generalize World.setCells w2 w.heap.size 0 [I 0,I 0,I 0,I 0,I 0] = WE at xp ⊢
    obtain ⟨d0,d1,d2,d3,d4⟩:=yC (U xp).1
    try simp only [Exit.inBlock,Exit.then]
    refine bodyPost_ret (by simp [results,Tryz.results28,go_sem,d0,d1,d2,d3,d4]; try rfl) rfl ?_
    exact ⟨by rw [U HD]; rfl,(U xp).2⟩
   | cons o dr =>
    obtain ⟨b,off,rfl,kz,X⟩:=hdc (by simp)
    have hlp:(0:Int) < ((o :: dr).length:Int):=by rw [List.length_cons]; omega
    have hlp2:((0:Nat):Int) < ((o :: dr).length:Int):=by rw [List.length_cons]; omega
    obtain ⟨y0,-,-,y3,-,-⟩:=zB (X 0 o rfl)
    simp only [Nat.zero_mul,Nat.add_zero] at y0 y3
    generalize (o :: dr).length = dn at c10 hlp hlp2
    have xY:Hid (Bx w2.drew w.heap.size [I 0,I 0,I 0,I 0,I 0]):=zJ (U xI)
    have vv:Hid (yp w w2.drew):=⟨(U xw).os,(U xw).tape,(U xw).output,(U xw).size,(U xw).block⟩
    go_wp2_with fail
    have ku:w2.drew.cell? (Q cp 10) = _:=c10
    have y0d:w2.drew.cell? (Q b off) = some (I o.id):=y0
    have y3d:w2.drew.cell? (Q b (off + 3)) = some (I o.left):=y3
    refine zE 15 (by kernel_rfl) (by kernel_rfl) ?_
    simp only [yU,List.take_zero,yV,List.drop_zero]
    repeat still_step
    refine wpStill_nil ?_
    clear ku y0d y3d y0 y3 c5 c10 xI xR xw
    generalize w2.drew = h2 at xY vv ⊢
    have z0:=K (U xY) 0 rfl
    have z1:=K (U xY) 1 rfl
    have z2:=K (U xY) 2 rfl
    have z3:=K (U xY) 3 rfl
    have z4:=K (U xY) 4 rfl
    have f0:=zd (U xY) 0 (by decide)
    have f1:=zd (U xY) 1 (by decide)
    have f2:=zd (U xY) 2 (by decide)
    have f3:=zd (U xY) 3 (by decide)
    have f4:=zd (U xY) 4 (by decide)
    go_wp2_with fail
    try simp (config:={ zetaDelta:=true }) only [Exit.noGoto_ret]
    change bodyPost _ _ _ _ _ (World.setCells h2 w.heap.size 0 [I 9,I o.id,I 0,I o.left,I 0])
    have xp:Hid ((World.setCells h2 w.heap.size 0 [I 9,I o.id,I 0,I o.left,I 0]).rangeAt w.heap.size 0 [I 9,I o.id,I 0,I o.left,I 0]∧yp w (World.setCells h2 w.heap.size 0 [I 9,I o.id,I 0,I o.left,I 0])):=⟨(zw (U xY) (by simp only [List.length_cons,List.length_nil])).r,zi w.heap.size (by omega) [I 9,I o.id,I 0,I o.left,I 0] 0 h2 (U vv)⟩
    generalize World.setCells h2 w.heap.size 0 [I 9,I o.id,I 0,I o.left,I 0] = WE at xp ⊢
    obtain ⟨d0,d1,d2,d3,d4⟩:=yC (U xp).1
    try simp only [Exit.inBlock,Exit.then]
    refine bodyPost_ret (by simp [results,Tryz.results28,go_sem,d0,d1,d2,d3,d4]; try rfl) rfl ?_
    exact ⟨by rw [U HD]; rfl,(U xp).2⟩
  ·have HD:Hid (dueM g.l ⟨ti,kT,tt,tl,kS,tg⟩ kd dy = ⟨if aW kd = true then 4 else 5,ti,0,tl,0⟩):=by
    show _ = _
    unfold dueM
    rw [if_pos (by simpa using h0)]
    rcases qm with N | N | ⟨o,N,Y⟩
    ·exact absurd N h0
    ·rw [N]; rfl
    ·rw [N]; simp only [Y]; rfl
   have hp:0 < tl:=by omega
   clear qm h0
   have c2:=K (U xR).box 2 rfl
   have c5:=K (U xR).box 5 rfl
   have c8:=K (U xR).box 8 rfl
   cases jg:aW kd
   ·have HD2:=H (U HD)
    rw [jg,if_neg (by simp)] at HD2
    have vn:Hid (∀ W,Calls Tryz.prog 54 #[I kd] W fun e w'=>e = .returned (.bool false)∧w' = W):=fun W=>by rw [← jg]; exact cM kd W
    clear jg HD
    go_wp2_with fail
    refine (U vn w2).mono ?_
    rintro e w3 ⟨rfl,oM⟩
    rw [oM]
    clear oM
    have xY:Hid (Bx w2.drew w.heap.size [I 0,I 0,I 0,I 0,I 0]):=zJ (U xI)
    have vv:Hid (yp w w2.drew):=⟨(U xw).os,(U xw).tape,(U xw).output,(U xw).size,(U xw).block⟩
    go_wp2_with fail
    have d2:w2.drew.cell? (Q cp 2) = _:=c2
    have d5:w2.drew.cell? (Q cp 5) = _:=c5
    refine zE 12 (by kernel_rfl) (by kernel_rfl) ?_
    simp only [yU,List.take_zero,yV,List.drop_zero]
    repeat still_step
    refine wpStill_nil ?_
    clear d2 d5 c2 c5 c8 xI xR xw vn
    generalize w2.drew = h2 at xY vv ⊢
    have z0:=K (U xY) 0 rfl
    have z1:=K (U xY) 1 rfl
    have z2:=K (U xY) 2 rfl
    have z3:=K (U xY) 3 rfl
    have z4:=K (U xY) 4 rfl
    have f0:=zd (U xY) 0 (by decide)
    have f1:=zd (U xY) 1 (by decide)
    have f2:=zd (U xY) 2 (by decide)
    have f3:=zd (U xY) 3 (by decide)
    have f4:=zd (U xY) 4 (by decide)
    go_wp2_with fail
    try simp (config:={ zetaDelta:=true }) only [Exit.noGoto_ret]
    change bodyPost _ _ _ _ _ (World.setCells h2 w.heap.size 0 [I 5,I ti,I 0,I tl,I 0])
    have xp:Hid ((World.setCells h2 w.heap.size 0 [I 5,I ti,I 0,I tl,I 0]).rangeAt w.heap.size 0 [I 5,I ti,I 0,I tl,I 0]∧yp w (World.setCells h2 w.heap.size 0 [I 5,I ti,I 0,I tl,I 0])):=⟨(zw (U xY) (by simp only [List.length_cons,List.length_nil])).r,zi w.heap.size (by omega) [I 5,I ti,I 0,I tl,I 0] 0 h2 (U vv)⟩
    generalize World.setCells h2 w.heap.size 0 [I 5,I ti,I 0,I tl,I 0] = WE at xp ⊢
    obtain ⟨d0,d1,d2,d3,d4⟩:=yC (U xp).1
    try simp only [Exit.inBlock,Exit.then]
    refine bodyPost_ret (by simp [results,Tryz.results28,go_sem,d0,d1,d2,d3,d4]; try rfl) rfl ?_
    exact ⟨by rw [U HD2]; rfl,(U xp).2⟩
   ·have HD2:=H (U HD)
    rw [jg,if_pos rfl] at HD2
    have vn:Hid (∀ W,Calls Tryz.prog 54 #[I kd] W fun e w'=>e = .returned (.bool true)∧w' = W):=fun W=>by rw [← jg]; exact cM kd W
    clear jg HD
    go_wp2_with fail
    refine (U vn w2).mono ?_
    rintro e w3 ⟨rfl,oM⟩
    rw [oM]
    clear oM
    have xY:Hid (Bx w2.drew w.heap.size [I 0,I 0,I 0,I 0,I 0]):=zJ (U xI)
    have vv:Hid (yp w w2.drew):=⟨(U xw).os,(U xw).tape,(U xw).output,(U xw).size,(U xw).block⟩
    go_wp2_with fail
    have d2:w2.drew.cell? (Q cp 2) = _:=c2
    have d5:w2.drew.cell? (Q cp 5) = _:=c5
    refine zE 12 (by kernel_rfl) (by kernel_rfl) ?_
    simp only [yU,List.take_zero,yV,List.drop_zero]
    repeat still_step
    refine wpStill_nil ?_
    clear d2 d5 c2 c5 c8 xI xR xw vn
    generalize w2.drew = h2 at xY vv ⊢
    have z0:=K (U xY) 0 rfl
    have z1:=K (U xY) 1 rfl
    have z2:=K (U xY) 2 rfl
    have z3:=K (U xY) 3 rfl
    have z4:=K (U xY) 4 rfl
    have f0:=zd (U xY) 0 (by decide)
    have f1:=zd (U xY) 1 (by decide)
    have f2:=zd (U xY) 2 (by decide)
    have f3:=zd (U xY) 3 (by decide)
    have f4:=zd (U xY) 4 (by decide)
    go_wp2_with fail
    try simp (config:={ zetaDelta:=true }) only [Exit.noGoto_ret]
    change bodyPost _ _ _ _ _ (World.setCells h2 w.heap.size 0 [I 4,I ti,I 0,I tl,I 0])
    have xp:Hid ((World.setCells h2 w.heap.size 0 [I 4,I ti,I 0,I tl,I 0]).rangeAt w.heap.size 0 [I 4,I ti,I 0,I tl,I 0]∧yp w (World.setCells h2 w.heap.size 0 [I 4,I ti,I 0,I tl,I 0])):=⟨(zw (U xY) (by simp only [List.length_cons,List.length_nil])).r,zi w.heap.size (by omega) [I 4,I ti,I 0,I tl,I 0] 0 h2 (U vv)⟩
    generalize World.setCells h2 w.heap.size 0 [I 4,I ti,I 0,I tl,I 0] = WE at xp ⊢
    obtain ⟨d0,d1,d2,d3,d4⟩:=yC (U xp).1
    try simp only [Exit.inBlock,Exit.then]
    refine bodyPost_ret (by simp [results,Tryz.results28,go_sem,d0,d1,d2,d3,d4]; try rfl) rfl ?_
    exact ⟨by rw [U HD2]; rfl,(U xp).2⟩
 ·have HD:Hid (dueM g.l ⟨ti,kT,tt,tl,kS,tg⟩ kd dy = ⟨3,ti,o.id,min tl o.left,o.ticks⟩):=by
   show _ = _
   unfold dueM
   rw [if_pos (by simpa using xD),oq]
   simp only [kC]
   rfl
  generalize hq:min tl o.left = q at HD
  have hmin:∀ W,(Builtin.min_ #[3,3] 3 #[I tl,I o.left]).run Tryz.prog W = .ok (I q) W:=fun W=>by
   rw [← hq]
   by_cases qj:tl ≤ o.left
   ·rw [Int.min_eq_left qj]; go_simp; omega
   ·rw [Int.min_eq_right (by omega)]; go_simp
  obtain ⟨a,cap,rfl,aE,hdc⟩:=zK (U xR).row (yO xA (by decide))
  obtain ⟨b,off,rfl,kz,X⟩:=hdc (by intro h; rw [h] at qQ; simp at qQ)
  obtain ⟨y0,-,y2,y3,-,-⟩:=zB (X i o qQ)
  have hil':(i:Int) < g.l.length:=by omega
  have vA:(0:Int) ≤ i:=by omega
  have c1:=K (U xR).box 1 rfl
  have c2:=K (U xR).box 2 rfl
  have c5:=K (U xR).box 5 rfl
  clear oq kC xD hq qQ X hdc hil
  have xY:Hid (Bx w2.drew w.heap.size [I 0,I 0,I 0,I 0,I 0]):=zJ (U xI)
  have vv:Hid (yp w w2.drew):=⟨(U xw).os,(U xw).tape,(U xw).output,(U xw).size,(U xw).block⟩
  go_wp2_with fail
  have d1:w2.drew.cell? (Q cp 1) = _:=c1
  have d2:w2.drew.cell? (Q cp 2) = _:=c2
  have d5:w2.drew.cell? (Q cp 5) = _:=c5
  have y0d:w2.drew.cell? (Q b (off + i * 6)) = some (I o.id):=y0
  have y2d:w2.drew.cell? (Q b (off + i * 6 + 2)) = some (I o.ticks):=y2
  have y3d:w2.drew.cell? (Q b (off + i * 6 + 3)) = some (I o.left):=y3
  refine zE 36 (by kernel_rfl) (by kernel_rfl) ?_
  simp only [yU,List.take_zero,yV,List.drop_zero]
  repeat still_step
  refine wpStill_nil ?_
  clear d1 d2 d5 y0d y2d y3d y0 y2 y3 c1 c2 c5 xI xR xw
  generalize w2.drew = h2 at xY vv ⊢
  have z0:=K (U xY) 0 rfl
  have z1:=K (U xY) 1 rfl
  have z2:=K (U xY) 2 rfl
  have z3:=K (U xY) 3 rfl
  have z4:=K (U xY) 4 rfl
  have f0:=zd (U xY) 0 (by decide)
  have f1:=zd (U xY) 1 (by decide)
  have f2:=zd (U xY) 2 (by decide)
  have f3:=zd (U xY) 3 (by decide)
  have f4:=zd (U xY) 4 (by decide)
  go_wp2_with fail
  try simp (config:={ zetaDelta:=true }) only [Exit.noGoto_ret]
  change bodyPost _ _ _ _ _ (World.setCells h2 w.heap.size 0 [I 3,I ti,I o.id,I q,I o.ticks])
  have xp:Hid ((World.setCells h2 w.heap.size 0 [I 3,I ti,I o.id,I q,I o.ticks]).rangeAt w.heap.size 0 [I 3,I ti,I o.id,I q,I o.ticks]∧yp w (World.setCells h2 w.heap.size 0 [I 3,I ti,I o.id,I q,I o.ticks])):=⟨(zw (U xY) (by simp only [List.length_cons,List.length_nil])).r,zi w.heap.size (by omega) [I 3,I ti,I o.id,I q,I o.ticks] 0 h2 (U vv)⟩
  generalize World.setCells h2 w.heap.size 0 [I 3,I ti,I o.id,I q,I o.ticks] = WE at xp ⊢
  obtain ⟨d0,d1,d2,d3,d4⟩:=yC (U xp).1
  try simp only [Exit.inBlock,Exit.then]
  refine bodyPost_ret (by simp [results,Tryz.results28,go_sem,d0,d1,d2,d3,d4]; try rfl) rfl ?_
  exact ⟨by rw [U HD]; rfl,(U xp).2⟩
end Go.Proofs.YtnphbkgfjanmgaaGreatDoor
