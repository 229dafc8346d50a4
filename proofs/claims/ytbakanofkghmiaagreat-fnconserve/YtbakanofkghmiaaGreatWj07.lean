/-
  An order is added to the tree, proved by walking the function.
-/
import Derived.Test.YtbakanofkghmiaaGreatWj06
set_option linter.unusedVariables false
set_option maxHeartbeats 6400000
set_option maxRecDepth 100000
namespace Go.Proofs.YtbakanofkghmiaaGreat
open Go.RowKit
theorem add_s (b:Nat) (sd:Int) (seq:List Od) (o:Od) (w:World) (h:aS 179 false w b sd seq) (uD:o.side = sd) (hn:seq.length < 20) (hl:∀ o' ∈ seq,0 ≤ o'.left∧o'.left ≤ 1000000) (jr:0 ≤ o.left∧o.left ≤ 1000000) :
  Calls Tryz.prog 129 #[I b 0,.agg (yv o.id o.side o.ticks o.left o.life o.tag).toArray] w fun e w' =>
   e = ym (.tuple #[])∧aS 179 false w' b sd (seq ++ [o])∧w.grownBy w' (some b):=by
 obtain ⟨S,t,hT,hi,hq,qK⟩:=h
 have HI:=Y hi
 have HQ:=Y hq
 have HT:=Y hT
 have jP:=Y qK
 have HL:=Y hl
 have HSD:=Y uD
 have HOC:=Y hq.oc
 have hoc':(S.oc:Int) < 20:=by have:=hq.oc; omega
 have e1:((S.oc + 1:Nat):Int) = (S.oc:Int) + 1:=by omega
 have F:b ≠ w.heap.size:=by have:=tm_lt hT; omega
 have jY:World.rangeAt (w.alloc (eF (yv o.id o.side o.ticks o.left o.life o.tag).toArray 49)) w.heap.size 0 o.vs:=zi w o.vs 49
 have qm:TM 179 (w.alloc (eF (yv o.id o.side o.ticks o.left o.life o.tag).toArray 49)) b S:=bu hT (Below.heap_alloc w _ _ (tm_lt hT))
 have c1:=qm.oc
 have f1:=qm.fr
 have hT1:=tm_oc qm (S.oc + 1)
 have hR1:Hid (World.rangeAt (World.setCell (w.alloc (eF (yv o.id o.side o.ticks o.left o.life o.tag).toArray 49)) (J b 170) (H ((S.oc + 1:Nat):Int))) w.heap.size 0 o.vs):=fun j u hu=>by
  rw [yL _ _ _ _ (fun e=>F (congrArg Addr.block e))]; exact jY j u hu
 have hG1:Hid (w.grownBy (World.setCell (w.alloc (eF (yv o.id o.side o.ticks o.left o.life o.tag).toArray 49)) (J b 170) (H ((S.oc + 1:Nat):Int))) (some b)):=zM (World.grownBy_alloc w (eF (yv o.id o.side o.ticks o.left o.life o.tag).toArray 49) _) _ _
 have jm:=Y hT1
 have xA:Hid (w.heap.size < (World.heap (World.setCell (w.alloc (eF (yv o.id o.side o.ticks o.left o.life o.tag).toArray 49)) (J b 170) (H ((S.oc + 1:Nat):Int)))).size):=(by
  have:=yK _ _ (hR1 0 _ rfl)
  exact this)
 clear hi hq qK hl uD hT qm jY hT1
 go_enter Tryz.func129,Tryz.ntmps129
 go_wp2_with fail
 rw [← e1]
 have em:∃ m,m = S.oc + 1:=⟨_,rfl⟩
 obtain ⟨m,hm⟩:=em
 rw [← hm] at hR1 hG1 jm xA ⊢
 generalize hW1:World.setCell (w.alloc (eF (yv o.id o.side o.ticks o.left o.life o.tag).toArray 49)) (J b 170) (H (m:Int)) = W1 at hR1 hG1 jm xA ⊢
 have HM:=Y hm
 have hm21:(m:Int) < 21:=by omega
 obtain ⟨o0,o1,o2,o3,o4,o5⟩:=zz (U hR1)
 obtain ⟨q0,q1,q2,q3,q4,q5,q6⟩:=dF ((U jm).qo m (by omega))
 have f2:=(U jm).fr
 have oW:S.lc < 20:=by have:=U jP; omega
 have HB:=Y F
 clear hW1 hm e1 c1 f1 hoc' F
 go_region
 have vD:=Y (tm_put (U jm) m (by omega) o)
 have uM:=Y (gr_put (w:=W1) (b:=b) o m)
 generalize hW2:(((((((W1.setCell (J b (171 + m * 7)) (H o.id)).setCell (J b (171 + m * 7 + 1)) (H o.side)).setCell (J b (171 + m * 7 + 2)) (H o.ticks)).setCell (J b (171 + m * 7 + 3)) (H o.left)).setCell
   (J b (171 + m * 7 + 4)) (H o.life)).setCell (J b (171 + m * 7 + 5)) (yk o.tag)).setCell (J b (171 + m * 7 + 6)) (H 0)) = W2 at vD uM ⊢
 clear hW2 o0 o1 o2 o3 o4 o5 q0 q1 q2 q3 q4 q5 q6 f2
 rw [show ({ root:=S.root,lc:=S.lc,oc:=m,nd:=S.nd,qo:=upd S.qo m ⟨o,0⟩ }:TS) = S.lay o from by rw [U HM]; rfl] at vD
 have hR2:=Y (zt (U hR1) (U uM) (U xA) (fun e=>U HB (Option.some.inj e).symm))
 obtain ⟨o0,o1,o2,o3,o4,o5⟩:=zz (U hR2)
 have HTI:=Y (ti_lay o (U HI))
 have HT2d:Hid (TM 179 W2.drew.drew b (S.lay o)):=bu (U vD) rfl
 go_wp2_with fail
 go_region_with (go_at_call 158; refine (levelFor_s b (S.lay o) t o W2.drew.drew (U HT2d) (U HTI) oW).mono ?_; rintro e W3 ⟨h,rfl,vW⟩; have HE:=Y vW; have qJ:(h:Int) < 21:=lf_lt vW (U HTI) oW; clear vW)
 obtain ⟨S3,hT3,vd,oR⟩:=U HE
 rw [← U HSD] at HQ
 obtain ⟨r1,r2,r3,r4,r5,t',r6,r7⟩:=add_ready (U HI) (U HQ) oR
 have R4:=Y r4
 have R6:=Y r6
 have R7:=Y r7
 have R23:Hid ((0:Int) ≤ (S3.nd h).qty∧(S3.nd h).qty ≤ 20000000∧(0:Int) ≤ (S3.nd h).count∧(S3.nd h).count ≤ 20):=by
  have F:=sumL_bound (atK seq o.ticks) (fun o' vB=>U HL o' (List.mem_filter.1 vB).1)
  have kl:(atK seq o.ticks).length ≤ seq.length:=List.length_filter_le _ _
  rw [r2,r3]
  refine ⟨F.1,?_,by omega,by omega⟩
  have:=F.2
  have h20:((atK seq o.ticks).length:Int) ≤ 20:=by omega
  omega
 have jT:=Y hT3
 have qh:Hid (W2.grownBy W3 (some b)):=⟨vd.os,vd.tape,vd.output,vd.size,vd.block⟩
 have hR3:=Y (zt (U hR2) (U qh) (yJ (U xA) (U uM).size) (fun e=>U HB (Option.some.inj e).symm))
 have hy21:(S3.nd h).yo < 21:=by omega
 have hm1:m = 1 + seq.length:=by have:=U HM; have:=U HOC; omega
 have qa:=Y hm1
 clear hT3 vd oR r1 r2 r3 r4 r5 r6 r7 o0 o1 o2 o3 o4 o5 hm1 HE
 have uC:=(U jT).fr
 obtain ⟨n0,n1,n2,n3,n4,n5,n6,n7⟩:=zL ((U jT).nd h (by omega))
 have vL:h < 21:=by omega
 clear n0 n1 n2 n3 n4 n5
 by_cases hy:(S3.nd h).yo = 0
 ·have t5:=aX (U jT) h 6 vL (by omega) (H m) { S3.nd h with el:=m } rfl _ rfl
  have t6:=aX t5 h 7 vL (by omega) (H m) { (TS.nd _ h) with yo:=m } rfl _ rfl
  simp only [cO,zp] at t6
  obtain ⟨-,-,-,-,-,-,-,k7⟩:=zL (t5.nd h vL)
  have f5:=t5.fr
  rw [hy] at n7
  have kr:=Y (zM (zM (yR W3 (some b)) (2 + h * 8 + 6) (H m)) (2 + h * 8 + 7) (H m))
  have jn:=Y t6
  clear t5 t6
  go_wp2_with fail
  generalize hW6:(W3.setCell (J b (2 + h * 8 + 6)) (H m)).setCell (J b (2 + h * 8 + 7)) (H m) = W6 at kr jn ⊢
  clear jT hW6
  have f6:=(U jn).fr
  obtain ⟨-,-,m2,m3,-⟩:=zL ((U jn).nd h vL)
  simp only [zp] at m2 m3
  have hR6:=zt (U hR3) (U kr) (yJ (U xA) (yN (U uM).size (U qh).size)) (fun e=>U HB (Option.some.inj e).symm)
  obtain ⟨-,-,-,x3,-⟩:=zz hR6
  obtain ⟨b1,b2,b3,b4⟩:=U R23
  have t7:=aX (U jn) h 2 vL (by omega) (H ((S3.nd h).qty + o.left)) { (TS.nd _ h) with qty:=(S3.nd h).qty + o.left } rfl _ rfl
  have t8:=aX t7 h 3 vL (by omega) (H ((S3.nd h).count + 1)) { (TS.nd _ h) with count:=(S3.nd h).count + 1 } rfl _ rfl
  obtain ⟨-,-,-,y3,-⟩:=zL (t7.nd h vL)
  have f7:=t7.fr
  simp only [cO,zp] at t8 y3
  have oD:=Y t8
  have HG8:=Y (zM (zM (yR W6 (some b)) (2 + h * 8 + 2) (H ((S3.nd h).qty + o.left))) (2 + h * 8 + 3) (H ((S3.nd h).count + 1)))
  have pV:wrap64 ((S3.nd h).qty + o.left) = (S3.nd h).qty + o.left:=by unfold wrap64; omega
  clear t7 t8 hR6
  go_region
  try simp only [IntKind.wrap_i64]
  try rw [show (IntKind.i64.wrap ((S3.nd h).qty + o.left)) = (S3.nd h).qty + o.left from by rw [IntKind.wrap_i64]; exact pV]
  generalize hW7:W6.setCell (J b (2 + h * 8 + 2)) (H ((S3.nd h).qty + o.left)) = W7 at *
  go_wp2_with fail
  go_end0
  have HS8:Hid (_ = S3.link h m o.left):=link_eq0 S3 h m o.left hy
  rw [U HS8] at oD
  rw [U qa] at oD
  refine ⟨rfl,?_,?_⟩
  ·rw [← U HSD]
   refine ⟨_,t',bu (U oD) rfl,U R6,U R7,?_⟩
   have G:=U R4
   have E:=U jP
   show S3.lc ≤ _
   simp; omega
  ·exact cC (((((U hG1).trans (U uM)).trans (U qh)).trans (U kr)).trans (U HG8)) rfl rfl rfl rfl
 ·have t5:=tm_qo (U jT) (S3.nd h).yo 6 hy21 (by omega) (H m) { S3.qo (S3.nd h).yo with yg:=m } rfl _ rfl
  have t6:=aX t5 h 7 vL (by omega) (H m) { (TS.nd _ h) with yo:=m } rfl _ rfl
  obtain ⟨-,-,-,-,-,-,-,k7⟩:=zL (t5.nd h vL)
  obtain ⟨-,-,-,-,-,-,q6⟩:=dF ((U jT).qo (S3.nd h).yo hy21)
  have f5:=t5.fr
  have hyi:((S3.nd h).yo:Int) < 21:=by omega
  have pY:¬ (((S3.nd h).yo:Int) = 0):=by omega
  have kr:=Y (zM (zM (yR W3 (some b)) (171 + (S3.nd h).yo * 7 + 6) (H m)) (2 + h * 8 + 7) (H m))
  have jn:=Y t6
  clear t5 t6
  go_wp2_with fail
  go_region
  go_wp2_with fail
  generalize hW6:(W3.setCell (J b (171 + (S3.nd h).yo * 7 + 6)) (H m)).setCell (J b (2 + h * 8 + 7)) (H m) = W6 at kr jn ⊢
  clear jT hW6
  have f6:=(U jn).fr
  obtain ⟨-,-,m2,m3,-⟩:=zL ((U jn).nd h vL)
  simp only [zp] at m2 m3
  have hR6:=zt (U hR3) (U kr) (yJ (U xA) (yN (U uM).size (U qh).size)) (fun e=>U HB (Option.some.inj e).symm)
  obtain ⟨-,-,-,x3,-⟩:=zz hR6
  obtain ⟨b1,b2,b3,b4⟩:=U R23
  have t7:=aX (U jn) h 2 vL (by omega) (H ((S3.nd h).qty + o.left)) { (TS.nd _ h) with qty:=(S3.nd h).qty + o.left } rfl _ rfl
  have t8:=aX t7 h 3 vL (by omega) (H ((S3.nd h).count + 1)) { (TS.nd _ h) with count:=(S3.nd h).count + 1 } rfl _ rfl
  obtain ⟨-,-,-,y3,-⟩:=zL (t7.nd h vL)
  have f7:=t7.fr
  simp only [cO,zp] at t8 y3
  have oD:=Y t8
  have HG8:=Y (zM (zM (yR W6 (some b)) (2 + h * 8 + 2) (H ((S3.nd h).qty + o.left))) (2 + h * 8 + 3) (H ((S3.nd h).count + 1)))
  have pV:wrap64 ((S3.nd h).qty + o.left) = (S3.nd h).qty + o.left:=by unfold wrap64; omega
  clear t7 t8 hR6
  go_region
  try simp only [IntKind.wrap_i64]
  try rw [show (IntKind.i64.wrap ((S3.nd h).qty + o.left)) = (S3.nd h).qty + o.left from by rw [IntKind.wrap_i64]; exact pV]
  generalize hW7:W6.setCell (J b (2 + h * 8 + 2)) (H ((S3.nd h).qty + o.left)) = W7 at *
  go_wp2_with fail
  go_end0
  have HS8:Hid (_ = S3.link h m o.left):=link_eq1 S3 h m o.left hy
  rw [U HS8] at oD
  rw [U qa] at oD
  refine ⟨rfl,?_,?_⟩
  ·rw [← U HSD]
   refine ⟨_,t',bu (U oD) rfl,U R6,U R7,?_⟩
   have G:=U R4
   have E:=U jP
   show S3.lc ≤ _
   simp; omega
  ·exact cC (((((U hG1).trans (U uM)).trans (U qh)).trans (U kr)).trans (U HG8)) rfl rfl rfl rfl
theorem zNd_s:∀ i,i < 21→(Tryz.zeroCells179.toList.drop (2 + i * 8)).take 8 = zNd.vs
 | 0,_=>by kernel_rfl
 | 1,_=>by kernel_rfl
 | 2,_=>by kernel_rfl
 | 3,_=>by kernel_rfl
 | 4,_=>by kernel_rfl
 | 5,_=>by kernel_rfl
 | 6,_=>by kernel_rfl
 | 7,_=>by kernel_rfl
 | 8,_=>by kernel_rfl
 | 9,_=>by kernel_rfl
 | 10,_=>by kernel_rfl
 | 11,_=>by kernel_rfl
 | 12,_=>by kernel_rfl
 | 13,_=>by kernel_rfl
 | 14,_=>by kernel_rfl
 | 15,_=>by kernel_rfl
 | 16,_=>by kernel_rfl
 | 17,_=>by kernel_rfl
 | 18,_=>by kernel_rfl
 | 19,_=>by kernel_rfl
 | 20,_=>by kernel_rfl
 | n + 21,h=>absurd h (by omega)
theorem zQo_s:∀ i,i < 21→(Tryz.zeroCells179.toList.drop (171 + i * 7)).take 7 = zQo.vs
 | 0,_=>by kernel_rfl
 | 1,_=>by kernel_rfl
 | 2,_=>by kernel_rfl
 | 3,_=>by kernel_rfl
 | 4,_=>by kernel_rfl
 | 5,_=>by kernel_rfl
 | 6,_=>by kernel_rfl
 | 7,_=>by kernel_rfl
 | 8,_=>by kernel_rfl
 | 9,_=>by kernel_rfl
 | 10,_=>by kernel_rfl
 | 11,_=>by kernel_rfl
 | 12,_=>by kernel_rfl
 | 13,_=>by kernel_rfl
 | 14,_=>by kernel_rfl
 | 15,_=>by kernel_rfl
 | 16,_=>by kernel_rfl
 | 17,_=>by kernel_rfl
 | 18,_=>by kernel_rfl
 | 19,_=>by kernel_rfl
 | 20,_=>by kernel_rfl
 | n + 21,h=>absurd h (by omega)
theorem zTree_s (w:World) (sd:Int):aS 179 false (w.alloc (Obj.cells Tryz.zeroCells179 179)) w.heap.size sd [] :=
 ⟨zTS,.nil,tm_zero w _ _ (by kernel_rfl) (by kernel_rfl) zNd_s (by kernel_rfl) zQo_s,ti_zero _,qi_zero _,Nat.le_refl _⟩
theorem plant_s (v:Value) (l:List Od) (sd:Int) (w:World) (hr:RdR Od.vs 6 w v l) (hn:l.length ≤ 20) (hl:∀ o' ∈ l,0 ≤ o'.left∧o'.left ≤ 1000000) :
  Calls Tryz.prog 78 #[v,H sd] w fun e w' =>
   e = ym (yp w 0)∧aS 179 false w' w.heap.size sd (zx l sd)∧yn w w':=by
 obtain ⟨a,A,rfl,xE,hc⟩:=hr
 have xq:∀ (k:Nat) (c:Od),l[k]? = some c→∃ b off,a = some (J b off)∧b < w.heap.size∧w.rangeAt b (off + k * 6) c.vs:=by
  intro k c hk
  obtain ⟨b,off,G,E,h3⟩:=hc (by intro h; rw [h] at hk; simp at hk)
  exact ⟨b,off,G,E,h3 k c hk⟩
 have HC:=Y xq
 have HL:=Y hl
 have HN:=Y hn
 clear xq hc hl
 have HZ:=Y (zTree_s w sd)
 have vn:Hid (yn w (w.alloc (Obj.cells Tryz.zeroCells179 179))):=eD _ _
 go_enter Tryz.func78,Tryz.ntmps78
 go_wp2_with fail
 generalize (w.alloc (Obj.cells Tryz.zeroCells179 179)) = W0 at HZ vn ⊢
 go_loopw [11] (fun i wr=>∃ k:Nat,k ≤ l.length∧i = H k∧aS 179 false wr w.heap.size sd (zx (l.take k) sd)∧yn w wr) (fun i _=>l.length - (intOf i).toNat)
 case atStart=>exact ⟨0,Nat.zero_le _,rfl,U HZ,U vn⟩
 case round =>
  obtain ⟨k,hk,rfl,ob,xk⟩:=hrel
  have vU:=Y ob
  have ou:=Y xk
  clear ob xk HZ vn
  by_cases xJ:k < l.length
  ·obtain ⟨c,uV⟩:∃ c,l[k]? = some c:=⟨_,yH xJ⟩
   have jO:=Y uV
   obtain ⟨b,off,rfl,F,xo⟩:=U HC k c uV
   obtain ⟨g0,g1,g2,g3,g4,g5⟩:=zz (zb xo (U ou) F)
   have un:(k:Int) < l.length:=by omega
   clear uV xo F
   by_cases uD:c.side = sd
   ·have HIT:Hid (zx (l.take (k + 1)) c.side = zx (l.take k) c.side ++ [c]):=ofSide_snoc l k c (U jO)
    subst uD
    have hlk:(zx (l.take k) c.side).length < 20:=by
     have G:(zx (l.take k) c.side).length ≤ (l.take k).length:=List.length_filter_le _ _
     have E:(l.take k).length ≤ k:=List.length_take_le _ _
     have h3:=U HN
     omega
    have HLK:=Y hlk
    have xo:=U HL c (yO (U jO))
    have kp:=Y xo
    clear hlk xo
    go_wp2_with fail
    refine (add_s w.heap.size c.side (zx (l.take k) c.side) c _ (zG (U vU) (Below.heap_alloc wr _ _ (bz (U vU)))) rfl (U HLK) (fun o' vB=>U HL o' (List.mem_of_mem_take (List.mem_filter.1 vB).1)) (U kp)).mono ?_
    rintro e w2 ⟨rfl,pX,qc⟩
    rw [← U HIT] at pX
    have pG:=Y pX
    have xD:=Y (((U ou).alloc (U ou).size _).grown qc (by rw [zh]; have:=(U ou).size; omega) (fun g hg=>by obtain rfl:=Option.some.inj hg; exact Nat.le_refl _))
    clear pX qc
    go_wp2_with fail
    go_roundw
    case rel=>exact ⟨k + 1,by omega,by go_num,U pG,U xD⟩
    case measure=>simp [intOf]; omega
   ·have HIT:Hid (zx (l.take (k + 1)) sd = zx (l.take k) sd):=ofSide_skip l k c (U jO) uD
    go_wp2_with fail
    go_roundw
    case rel =>
     refine ⟨k + 1,by omega,by go_num,?_,?_⟩
     ·rw [U HIT]; exact zG (U vU) (Below.heap_alloc wr _ _ (bz (U vU)))
     ·exact (U ou).alloc (U ou).size _
    case measure=>simp [intOf]; omega
  ·go_wp2_with fail
   go_ret
   have h:=U vU
   rw [yZ (by omega)] at h
   exact ⟨rfl,h,U ou⟩
theorem infoH_s:(Tryz.prog.info? 166).map (fun i=>(i.zero,i.size,i.bytes)) = some (some (H 0),1,8):=by kernel_rfl
theorem cellsH_s (w:World) (cs:List Value) (t:TypeId) (j:Nat) (u:Value) (h:cs[j]? = some u):(w.alloc (Obj.cells cs.toArray t)).cell? (((yq w 0):Addr).add j) = some u:=by
 rw [Addr.add_mid,cell_of_row _ w.heap.size (0 + j) cs.toArray t (0,0) (heap_alloc_new w _)]
 simpa using h
def hval_s (h:Nat):Value:=H h
theorem ranked_s (S:TS) (b B:Nat) (hbB:b < B):∀ (t:Tr) (w:World) (v:Value) (done:List Nat) (part:Nat),TM 179 w b S→Rep S.nd t part→(∀ h ∈ t.hs,h < 21)→B ≤ w.heap.size →
  w.ownsRow B 166 1 v done.length (done.map hval_s)→done.length + t.hs.length ≤ 1000 →
  Calls Tryz.prog 157 #[I b 0,v,H part] w fun e w' =>
   ∃ v',e = ym v'∧w'.ownsRow B 166 1 v' (done ++ t.hs).length ((done ++ t.hs).map hval_s)∧Below B w w'
 | .nil,w,v,done,part,hT,hrep,hh,hB,xN,xE=>by
  obtain rfl:part = 0:=hrep
  have HO:=Y xN
  clear xN hT hh
  go_enter Tryz.func157,Tryz.ntmps157
  go_wp2_with fail
  go_ret
  exact ⟨v,rfl,by simpa [Tr.hs] using U HO,Below.refl _ _⟩
 | .node h l r,w,v,done,part,hT,hrep,hh,hB,xN,xE=>by
  obtain ⟨rfl,h0,hl,hr⟩:=hrep
  have HO:=Y xN
  have HT:=Y hT
  have HL:=Y hl
  have HR:=Y hr
  have oX:done.length + (l.hs.length + 1 + r.hs.length) ≤ 1000:=by simp [Tr.hs] at xE; omega
  have vL:=hh part (by simp [Tr.hs])
  have HHL:=Y (fun a (ha:a ∈ l.hs)=>hh a (by simp [Tr.hs,ha]))
  have HHR:=Y (fun a (ha:a ∈ r.hs)=>hh a (by simp [Tr.hs,ha]))
  have h21':(part:Int) < 21:=by omega
  have h0':¬ ((part:Int) = 0):=by omega
  have jQ:=Y oX
  obtain ⟨-,-,-,-,n4,-⟩:=zL (hT.nd part vL)
  obtain ⟨i0,hi,uF,uJ,uQ⟩:=info_parts infoH_s
  clear xN hT hh hl hr xE oX
  go_enter Tryz.func157,Tryz.ntmps157
  go_wp2_with fail
  refine (ranked_s S b B hbB l w v done _ (U HT) (U HL) (U HHL) hB (U HO) (by have:=U jQ; omega)).mono ?_
  rintro e w1 ⟨v1,rfl,vu,xW⟩
  have vp:=Y vu
  have xU:=Y xW
  have hsz1:=xW.size
  have hla:(done ++ l.hs).length ≤ 999:=by have:=U jQ; rw [yP]; omega
  obtain ⟨-,-,-,-,-,n5,-⟩:=zL ((cY (U HT) xW hbB).nd part vL)
  clear vu xW n4
  go_wp2_with (at_builtin; go_must (refine wpList_append_own _ rfl _ _ 195 rfl B 166 i0 _ 1 8 Tryz.underlying195 hi uF uJ uQ rfl (by decide) v1 (done ++ l.hs).length ((done ++ l.hs).map hval_s) rfl ((U vp).alloc _) (yq w1 0) 1 1 [hval_s part] rfl rfl (cellsH_s w1 _ _) (by simp [Value.oneCell',hval_s]) (by unfold maxLen; omega) (by omega) (by simp at hla ⊢; omega) ?_); intro v2 w2 qY qc _; have vT:=Y qY; have xD:=Y (((U xU).alloc (yN hB hsz1) _).grown qc (by rw [zh]; omega) (fun k hk=>((U vp).lt k hk).1)); have m5:=(zL ((cY (U HT) (U xD) hbB).nd part vL)).2.2.2.2.2.1; clear qY qc n5)
  have hsz2:=(U xD).size
  refine (ranked_s S b B hbB r w2 v2 (done ++ l.hs ++ [part]) _ (cY (U HT) (U xD) hbB) (U HR) (U HHR) (by omega) (by simpa [Nat.add_assoc] using U vT) (by have:=U jQ; simp; omega)).mono ?_
  rintro e w3 ⟨v3,rfl,ho3,uC⟩
  have qQ:=Y ho3
  have xV:=Y ((U xD).trans uC)
  clear ho3 uC m5
  go_wp2_with fail
  go_ret
  exact ⟨v3,rfl,by simpa [Tr.hs] using U qQ,U xV⟩
theorem infoLv_s:(Tryz.prog.info? 168).map (fun i=>(i.zero,i.size,i.bytes)) = some (some (.agg #[H 0,H 0,H 0,H 0]),4,32):=by kernel_rfl
theorem takeR_s {α:Type} (l:List α) (k:Nat) (c:α) (h:l[k]? = some c):l.take (k + 1) = l.take k ++ [c]:=by
 obtain ⟨hk,rfl⟩:=yG.1 h
 rw [List.take_succ_eq_append_getElem hk]
theorem rowBase_s {W:World} {B B':Nat} {e:TypeId} {sz:Nat} {v:Value} {n:Nat} {xs:List Value} (h:W.ownsRow B e sz v n xs) (hB:B' ≤ B):W.ownsRow B' e sz v n xs :=
 ⟨h.1,by
  rcases h.2 with G | ⟨g',c',xr,G,E,h3⟩
  ·exact .inl G
  ·exact .inr ⟨g',c',xr,G,yN hB E,h3⟩⟩
theorem flat1_s (l:List Nat):(l.flatMap fun h=>[hval_s h]) = l.map hval_s:=by
 induction l with
 | nil=>rfl
 | cons a r ih=>rw [List.flatMap_cons,ih]; rfl
theorem levelsO_s (b:Nat) (sd:Int) (seq:List Od) (w:World) (h:aS 179 false w b sd seq) (hn:seq.length ≤ 20) :
  Calls Tryz.prog 128 #[I b 0] w fun e w' =>
   ∃ v',e = ym v'∧w'.ownsRow w.heap.size 168 4 v' (aW false sd seq).length ((aW false sd seq).flatMap Lv.vs)∧yn w w':=by
 obtain ⟨S,t,hT,hi,hq,qK⟩:=h
 have hlv:=dZ hi hq
 rw [← hlv]
 have qJ:∀ a ∈ t.hs,a < 21:=fun a ha=>by have:=(hi.range a ha).2; omega
 have xE:t.hs.length ≤ 20:=by rw [hi.len]; omega
 have HT:=Y hT
 have HR:=Y hi.rep
 have HH:=Y qJ
 have jZ:=hT.root
 have jB:=tm_lt hT
 generalize ht:t.hs = hs at *
 have HHS:=Y ht
 have HNIL:=Y (World.ownsRow_nil w w.heap.size 166 1)
 obtain ⟨i0,uH,uF,uJ,uQ⟩:=info_parts infoLv_s
 clear hi hq qK hlv hT qJ ht
 go_enter Tryz.func128,Tryz.ntmps128
 go_wp2_with fail
 refine (ranked_s S b w.heap.size jB t w _ [] S.root (U HT) (U HR) (by rw [U HHS]; exact U HH) qt (U HNIL) (by rw [U HHS]; simp; omega)).mono ?_
 rintro e w1 ⟨v1,rfl,vu,xW⟩
 rw [List.nil_append,U HHS] at vu
 have xU:=Y xW
 have HOR:=Y (bQ (f:=fun h=>[hval_s h]) (fun _=>rfl) (by omega) (show w1.ownsRow w.heap.size 166 1 v1 hs.length (hs.flatMap fun h=>[hval_s h]) by rw [flat1_s]; exact vu))
 obtain ⟨a,A,rfl,_,hc⟩:=U HOR
 have xq:∀ k h,hs[k]? = some h→∃ g,a = some (J g 0)∧g < w1.heap.size∧w1.cell? (J g (0 + k * 1 + 0)) = some (H (h:Nat)):=fun k h hk=>by
  obtain ⟨g,G,_,h3,h4,_⟩:=hc (by intro e; rw [e] at hk; simp at hk)
  exact ⟨g,G,h3,h4 k h hk 0 _ rfl⟩
 have HC:=Y xq
 clear vu xW hc xq jZ
 go_wp2_with fail
 have xW:=(U xU).size
 go_loopw [3,13] (fun ov iv wr=>∃ (k:Nat) (done:List Lv),k ≤ hs.length∧iv = H k∧Hid (done = (hs.map fun h=>(S.nd h).lv).take k)∧wr.ownsRow w1.heap.size 168 4 ov done.length (done.flatMap Lv.vs)∧yn w1 wr) (fun _ iv _=>hs.length - (intOf iv).toNat)
 case atStart=>exact ⟨0,[],Nat.zero_le _,rfl,by simp [Hid],World.ownsRow_nil _ _ _ _,Below.refl _ _⟩
 case round =>
  obtain ⟨k,done,hk,rfl,hd,xN,xk⟩:=hrel
  have HOW:=Y xN
  have HB:=Y xk
  have hdl:done.length = k:=by rw [U hd,List.length_take,List.length_map]; omega
  clear xN xk
  by_cases xJ:k < hs.length
  ·obtain ⟨h,hkh⟩:∃ h,hs[k]? = some h:=⟨_,yH xJ⟩
   have jO:Hid ((hs.map fun h=>(S.nd h).lv)[k]? = some (S.nd h).lv):=by show _ = _; rw [List.getElem?_map,hkh]; rfl
   obtain ⟨g,rfl,hg,xo⟩:=U HC k h hkh
   have vL:=U HH h (yO hkh)
   have h21':(h:Int) < 21:=by omega
   have vM:=((U HB).cell (p:=(J g (0 + k * 1 + 0))) hg).trans xo
   rw [show 0 + k * 1 + 0 = k by omega] at vM
   have hTr:=cY (U HT) ((U xU).trans ((U HB).mono xW)) jB
   obtain ⟨n0,n1,n2,n3,-⟩:=zL (hTr.nd h vL)
   have un:(k:Int) < hs.length:=by omega
   have hsr:=(U HB).size
   clear hkh xo hTr hg
   go_wp2_with (at_builtin; go_must (refine wpList_append_own _ rfl _ _ 133 rfl w1.heap.size 168 i0 _ 4 32 Tryz.underlying133 uH uF uJ uQ rfl (by decide) _ done.length (done.flatMap Lv.vs) rfl ((U HOW).alloc _) (yq wr 0) 1 1 (S.nd h).lv.vs rfl rfl (cellsH_s wr _ _) (by simp [Value.oneCell',Lv.vs,Nd.lv]) (by unfold maxLen; omega) (by omega) (by simp; omega) ?_); intro v4 w4 js hg4 _)
   go_roundw
   case rel =>
    refine ⟨k + 1,done ++ [(S.nd h).lv],by omega,by go_num,?_,?_,?_⟩
    ·show done ++ [(S.nd h).lv] = _
     rw [takeR_s _ k _ (U jO),← U hd]
    ·simpa using js
    ·exact ((U HB).alloc hsr _).grown hg4 (by simp; omega) fun k hk=>((U HOW).lt k hk).1
   case measure=>simp [intOf]; omega
  ·go_wp2_with fail
   go_ret
   have h:=U hd
   rw [yZ (by rw [List.length_map]; omega)] at h
   subst h
   exact ⟨_,rfl,rowBase_s (U HOW) xW,(U xU).trans ((U HB).mono xW)⟩
theorem levels_s (b:Nat) (sd:Int) (seq:List Od) (w:World) (h:aS 179 false w b sd seq) (hn:seq.length ≤ 20) :
  Calls Tryz.prog 128 #[I b 0] w fun e w' =>
   ∃ v',e = ym v'∧OwnR Lv.vs 4 w.heap.size w' v' (aW false sd seq)∧yn w w':=by
 have xE:(aW false sd seq).length ≤ 20:=by
  obtain ⟨S,t,hT,hi,hq,qK⟩:=h
  rw [← dZ hi hq,List.length_map,hi.len]; omega
 refine (levelsO_s b sd seq w h hn).mono ?_
 rintro e w' ⟨v',rfl,Z,F⟩
 exact ⟨v',rfl,bQ Lv.len (by omega) Z,F⟩
end Go.Proofs.YtbakanofkghmiaaGreat
