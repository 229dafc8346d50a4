/-
  An order is added to the tree, proved by walking the function.
-/
import Derived.Test.YtbakanofkghmiaaGreatPj08
set_option linter.unusedVariables false
set_option maxHeartbeats 6400000
set_option maxRecDepth 100000
namespace Go.Proofs.YtbakanofkghmiaaGreat
open Go.RowKit
theorem add_s (b:Nat) (sd:Int) (seq:List Od) (o:Od) (w:World) (h:aC 179 false w b sd seq) (uu:o.side = sd) (hn:seq.length < 20) (hl:∀ o' ∈ seq,0 ≤ o'.left∧o'.left ≤ 1000000) (jc:0 ≤ o.left∧o.left ≤ 1000000) :
  Calls Tryz.prog 129 #[I b 0,.agg (yt o.id o.side o.ticks o.left o.life o.tag).toArray] w fun e w' =>
   e = yk (.tuple #[])∧aC 179 false w' b sd (seq ++ [o])∧w.grownBy w' (some b):=by
 obtain ⟨S,t,hT,hi,hq,vp⟩:=h
 have HI:=Q hi
 have HQ:=Q hq
 have HT:=Q hT
 have kz:=Q vp
 have HL:=Q hl
 have HSD:=Q uu
 have HOC:=Q hq.oc
 have hoc':(S.oc:Int) < 20:=by have:=hq.oc; omega
 have e1:((S.oc + 1:Nat):Int) = (S.oc:Int) + 1:=by omega
 have hb:b ≠ w.heap.size:=by have:=tm_lt hT; omega
 have jE:World.rangeAt (w.alloc (E (yt o.id o.side o.ticks o.left o.life o.tag).toArray 49)) w.heap.size 0 o.vs:=zg w o.vs 49
 have qc:TM 179 (w.alloc (E (yt o.id o.side o.ticks o.left o.life o.tag).toArray 49)) b S:=aS hT (Below.heap_alloc w _ _ (tm_lt hT))
 have c1:=qc.oc
 have f1:=qc.fr
 have hT1:=tm_oc qc (S.oc + 1)
 have hR1:Hid (World.rangeAt (World.setCell (w.alloc (E (yt o.id o.side o.ticks o.left o.life o.tag).toArray 49)) (J b 170) (H ((S.oc + 1:Nat):Int))) w.heap.size 0 o.vs):=fun j u hu=>by
  rw [yI _ _ _ _ (fun e=>hb (congrArg Addr.block e))]; exact jE j u hu
 have hG1:Hid (w.grownBy (World.setCell (w.alloc (E (yt o.id o.side o.ticks o.left o.life o.tag).toArray 49)) (J b 170) (H ((S.oc + 1:Nat):Int))) (some b)):=zP (World.grownBy_alloc w (E (yt o.id o.side o.ticks o.left o.life o.tag).toArray 49) _) _ _
 have qD:=Q hT1
 have xz:Hid (w.heap.size < (World.heap (World.setCell (w.alloc (E (yt o.id o.side o.ticks o.left o.life o.tag).toArray 49)) (J b 170) (H ((S.oc + 1:Nat):Int)))).size):=(by
  have:=yH _ _ (hR1 0 _ rfl)
  exact this)
 clear hi hq vp hl uu hT qc jE hT1
 go_enter Tryz.func129,Tryz.ntmps129
 go_wp2_with fail
 rw [← e1]
 have em:∃ m,m = S.oc + 1:=⟨_,rfl⟩
 obtain ⟨m,hm⟩:=em
 rw [← hm] at hR1 hG1 qD xz ⊢
 generalize hW1:World.setCell (w.alloc (E (yt o.id o.side o.ticks o.left o.life o.tag).toArray 49)) (J b 170) (H (m:Int)) = W1 at hR1 hG1 qD xz ⊢
 have HM:=Q hm
 have hm21:(m:Int) < 21:=by omega
 obtain ⟨o0,o1,o2,o3,o4,o5⟩:=zx (M hR1)
 obtain ⟨q0,q1,q2,q3,q4,q5,q6⟩:=dw ((M qD).qo m (by omega))
 have f2:=(M qD).fr
 have oz:S.lc < 20:=by have:=M kz; omega
 have HB:=Q hb
 clear hW1 hm e1 c1 f1 hoc' hb
 go_region
 have vh:=Q (tm_put (M qD) m (by omega) o)
 have vz:=Q (gr_put (w:=W1) (b:=b) o m)
 generalize hW2:(((((((W1.setCell (J b (171 + m * 7)) (H o.id)).setCell (J b (171 + m * 7 + 1)) (H o.side)).setCell (J b (171 + m * 7 + 2)) (H o.ticks)).setCell (J b (171 + m * 7 + 3)) (H o.left)).setCell
   (J b (171 + m * 7 + 4)) (H o.life)).setCell (J b (171 + m * 7 + 5)) (yi o.tag)).setCell (J b (171 + m * 7 + 6)) (H 0)) = W2 at vh vz ⊢
 clear hW2 o0 o1 o2 o3 o4 o5 q0 q1 q2 q3 q4 q5 q6 f2
 rw [show ({ root:=S.root,lc:=S.lc,oc:=m,nd:=S.nd,qo:=upd S.qo m ⟨o,0⟩ }:TS) = S.lay o from by rw [M HM]; rfl] at vh
 have hR2:=Q (zm (M hR1) (M vz) (M xz) (fun e=>M HB (Option.some.inj e).symm))
 obtain ⟨o0,o1,o2,o3,o4,o5⟩:=zx (M hR2)
 have HTI:=Q (ti_lay o (M HI))
 have HT2d:Hid (TM 179 W2.drew.drew b (S.lay o)):=aS (M vh) rfl
 go_wp2_with fail
 go_region_with (go_at_call 158; refine (levelFor_s b (S.lay o) t o W2.drew.drew (M HT2d) (M HTI) oz).mono ?_; rintro e W3 ⟨h,rfl,vT⟩; have HE:=Q vT; have qw:(h:Int) < 21:=lf_lt vT (M HTI) oz; clear vT)
 obtain ⟨S3,hT3,uz,oj⟩:=M HE
 rw [← M HSD] at HQ
 obtain ⟨r1,r2,r3,r4,r5,t',r6,r7⟩:=add_ready (M HI) (M HQ) oj
 have R4:=Q r4
 have R6:=Q r6
 have R7:=Q r7
 have R23:Hid ((0:Int) ≤ (S3.nd h).qty∧(S3.nd h).qty ≤ 20000000∧(0:Int) ≤ (S3.nd h).count∧(S3.nd h).count ≤ 20):=by
  have hb:=sumL_bound (atK seq o.ticks) (fun o' vk=>M HL o' (List.mem_filter.1 vk).1)
  have qI:(atK seq o.ticks).length ≤ seq.length:=List.length_filter_le _ _
  rw [r2,r3]
  refine ⟨hb.1,?_,by omega,by omega⟩
  have:=hb.2
  have h20:((atK seq o.ticks).length:Int) ≤ 20:=by omega
  omega
 have qE:=Q hT3
 have vJ:Hid (W2.grownBy W3 (some b)):=⟨uz.os,uz.tape,uz.output,uz.size,uz.block⟩
 have hR3:=Q (zm (M hR2) (M vJ) (yG (M xz) (M vz).size) (fun e=>M HB (Option.some.inj e).symm))
 have hy21:(S3.nd h).yo < 21:=by omega
 have hm1:m = 1 + seq.length:=by have:=M HM; have:=M HOC; omega
 have qa:=Q hm1
 clear hT3 uz oj r1 r2 r3 r4 r5 r6 r7 o0 o1 o2 o3 o4 o5 hm1 HE
 have uf:=(M qE).fr
 obtain ⟨n0,n1,n2,n3,n4,n5,n6,n7⟩:=zN ((M qE).nd h (by omega))
 have vE:h < 21:=by omega
 clear n0 n1 n2 n3 n4 n5
 by_cases hy:(S3.nd h).yo = 0
 ·have t5:=aJ (M qE) h 6 vE (by omega) (H m) { S3.nd h with el:=m } rfl _ rfl
  have t6:=aJ t5 h 7 vE (by omega) (H m) { (TS.nd _ h) with yo:=m } rfl _ rfl
  simp only [cG,zp] at t6
  obtain ⟨-,-,-,-,-,-,-,k7⟩:=zN (t5.nd h vE)
  have f5:=t5.fr
  rw [hy] at n7
  have kO:=Q (zP (zP (yO W3 (some b)) (2 + h * 8 + 6) (H m)) (2 + h * 8 + 7) (H m))
  have qX:=Q t6
  clear t5 t6
  go_wp2_with fail
  generalize hW6:(W3.setCell (J b (2 + h * 8 + 6)) (H m)).setCell (J b (2 + h * 8 + 7)) (H m) = W6 at kO qX ⊢
  clear qE hW6
  have f6:=(M qX).fr
  obtain ⟨-,-,m2,m3,-⟩:=zN ((M qX).nd h vE)
  simp only [zp] at m2 m3
  have hR6:=zm (M hR3) (M kO) (yG (M xz) (yK (M vz).size (M vJ).size)) (fun e=>M HB (Option.some.inj e).symm)
  obtain ⟨-,-,-,x3,-⟩:=zx hR6
  obtain ⟨b1,b2,b3,b4⟩:=M R23
  have t7:=aJ (M qX) h 2 vE (by omega) (H ((S3.nd h).qty + o.left)) { (TS.nd _ h) with qty:=(S3.nd h).qty + o.left } rfl _ rfl
  have t8:=aJ t7 h 3 vE (by omega) (H ((S3.nd h).count + 1)) { (TS.nd _ h) with count:=(S3.nd h).count + 1 } rfl _ rfl
  obtain ⟨-,-,-,y3,-⟩:=zN (t7.nd h vE)
  have f7:=t7.fr
  simp only [cG,zp] at t8 y3
  have ph:=Q t8
  have HG8:=Q (zP (zP (yO W6 (some b)) (2 + h * 8 + 2) (H ((S3.nd h).qty + o.left))) (2 + h * 8 + 3) (H ((S3.nd h).count + 1)))
  have pH:wrap64 ((S3.nd h).qty + o.left) = (S3.nd h).qty + o.left:=by unfold wrap64; omega
  clear t7 t8 hR6
  go_region
  try simp only [IntKind.wrap_i64]
  try rw [show (IntKind.i64.wrap ((S3.nd h).qty + o.left)) = (S3.nd h).qty + o.left from by rw [IntKind.wrap_i64]; exact pH]
  generalize hW7:W6.setCell (J b (2 + h * 8 + 2)) (H ((S3.nd h).qty + o.left)) = W7 at *
  go_wp2_with fail
  go_end0
  have HS8:Hid (_ = S3.link h m o.left):=link_eq0 S3 h m o.left hy
  rw [M HS8] at ph
  rw [M qa] at ph
  refine ⟨rfl,?_,?_⟩
  ·rw [← M HSD]
   refine ⟨_,t',aS (M ph) rfl,M R6,M R7,?_⟩
   have z:=M R4
   have K:=M kz
   show S3.lc ≤ _
   simp; omega
  ·exact bY (((((M hG1).trans (M vz)).trans (M vJ)).trans (M kO)).trans (M HG8)) rfl rfl rfl rfl
 ·have t5:=tm_qo (M qE) (S3.nd h).yo 6 hy21 (by omega) (H m) { S3.qo (S3.nd h).yo with yg:=m } rfl _ rfl
  have t6:=aJ t5 h 7 vE (by omega) (H m) { (TS.nd _ h) with yo:=m } rfl _ rfl
  obtain ⟨-,-,-,-,-,-,-,k7⟩:=zN (t5.nd h vE)
  obtain ⟨-,-,-,-,-,-,q6⟩:=dw ((M qE).qo (S3.nd h).yo hy21)
  have f5:=t5.fr
  have hyi:((S3.nd h).yo:Int) < 21:=by omega
  have js:¬ (((S3.nd h).yo:Int) = 0):=by omega
  have kO:=Q (zP (zP (yO W3 (some b)) (171 + (S3.nd h).yo * 7 + 6) (H m)) (2 + h * 8 + 7) (H m))
  have qX:=Q t6
  clear t5 t6
  go_wp2_with fail
  go_region
  go_wp2_with fail
  generalize hW6:(W3.setCell (J b (171 + (S3.nd h).yo * 7 + 6)) (H m)).setCell (J b (2 + h * 8 + 7)) (H m) = W6 at kO qX ⊢
  clear qE hW6
  have f6:=(M qX).fr
  obtain ⟨-,-,m2,m3,-⟩:=zN ((M qX).nd h vE)
  simp only [zp] at m2 m3
  have hR6:=zm (M hR3) (M kO) (yG (M xz) (yK (M vz).size (M vJ).size)) (fun e=>M HB (Option.some.inj e).symm)
  obtain ⟨-,-,-,x3,-⟩:=zx hR6
  obtain ⟨b1,b2,b3,b4⟩:=M R23
  have t7:=aJ (M qX) h 2 vE (by omega) (H ((S3.nd h).qty + o.left)) { (TS.nd _ h) with qty:=(S3.nd h).qty + o.left } rfl _ rfl
  have t8:=aJ t7 h 3 vE (by omega) (H ((S3.nd h).count + 1)) { (TS.nd _ h) with count:=(S3.nd h).count + 1 } rfl _ rfl
  obtain ⟨-,-,-,y3,-⟩:=zN (t7.nd h vE)
  have f7:=t7.fr
  simp only [cG,zp] at t8 y3
  have ph:=Q t8
  have HG8:=Q (zP (zP (yO W6 (some b)) (2 + h * 8 + 2) (H ((S3.nd h).qty + o.left))) (2 + h * 8 + 3) (H ((S3.nd h).count + 1)))
  have pH:wrap64 ((S3.nd h).qty + o.left) = (S3.nd h).qty + o.left:=by unfold wrap64; omega
  clear t7 t8 hR6
  go_region
  try simp only [IntKind.wrap_i64]
  try rw [show (IntKind.i64.wrap ((S3.nd h).qty + o.left)) = (S3.nd h).qty + o.left from by rw [IntKind.wrap_i64]; exact pH]
  generalize hW7:W6.setCell (J b (2 + h * 8 + 2)) (H ((S3.nd h).qty + o.left)) = W7 at *
  go_wp2_with fail
  go_end0
  have HS8:Hid (_ = S3.link h m o.left):=link_eq1 S3 h m o.left hy
  rw [M HS8] at ph
  rw [M qa] at ph
  refine ⟨rfl,?_,?_⟩
  ·rw [← M HSD]
   refine ⟨_,t',aS (M ph) rfl,M R6,M R7,?_⟩
   have z:=M R4
   have K:=M kz
   show S3.lc ≤ _
   simp; omega
  ·exact bY (((((M hG1).trans (M vz)).trans (M vJ)).trans (M kO)).trans (M HG8)) rfl rfl rfl rfl
theorem zNd_s:∀ i,i < 21→(Tryz.zeroCells179.toList.drop (2 + i * 8)).take 8 = zNd.vs
 | 0,_=>by kernel_rfl
 | 1,_=>by kernel_rfl
 | 2,_=>by kernel_rfl
 | 3,_=>by kernel_rfl
 | 4,_=>by kernel_rfl
 | 5,_=>by kernel_rfl
 | 6,_=>by kernel_rfl
 | 7,_=>by kernel_rfl
 | 8,_=>by kernel_rfl
 | 9,_=>by kernel_rfl
 | 10,_=>by kernel_rfl
 | 11,_=>by kernel_rfl
 | 12,_=>by kernel_rfl
 | 13,_=>by kernel_rfl
 | 14,_=>by kernel_rfl
 | 15,_=>by kernel_rfl
 | 16,_=>by kernel_rfl
 | 17,_=>by kernel_rfl
 | 18,_=>by kernel_rfl
 | 19,_=>by kernel_rfl
 | 20,_=>by kernel_rfl
 | n + 21,h=>absurd h (by omega)
theorem zQo_s:∀ i,i < 21→(Tryz.zeroCells179.toList.drop (171 + i * 7)).take 7 = zQo.vs
 | 0,_=>by kernel_rfl
 | 1,_=>by kernel_rfl
 | 2,_=>by kernel_rfl
 | 3,_=>by kernel_rfl
 | 4,_=>by kernel_rfl
 | 5,_=>by kernel_rfl
 | 6,_=>by kernel_rfl
 | 7,_=>by kernel_rfl
 | 8,_=>by kernel_rfl
 | 9,_=>by kernel_rfl
 | 10,_=>by kernel_rfl
 | 11,_=>by kernel_rfl
 | 12,_=>by kernel_rfl
 | 13,_=>by kernel_rfl
 | 14,_=>by kernel_rfl
 | 15,_=>by kernel_rfl
 | 16,_=>by kernel_rfl
 | 17,_=>by kernel_rfl
 | 18,_=>by kernel_rfl
 | 19,_=>by kernel_rfl
 | 20,_=>by kernel_rfl
 | n + 21,h=>absurd h (by omega)
theorem zTree_s (w:World) (sd:Int):aC 179 false (w.alloc (Obj.cells Tryz.zeroCells179 179)) w.heap.size sd [] :=
 ⟨zTS,.nil,tm_zero w _ _ (by kernel_rfl) (by kernel_rfl) zNd_s (by kernel_rfl) zQo_s,ti_zero _,qi_zero _,Nat.le_refl _⟩
theorem plant_s (v:Value) (l:List Od) (sd:Int) (w:World) (hr:RdR Od.vs 6 w v l) (hn:l.length ≤ 20) (hl:∀ o' ∈ l,0 ≤ o'.left∧o'.left ≤ 1000000) :
  Calls Tryz.prog 78 #[v,H sd] w fun e w' =>
   e = yk (ym w 0)∧aC 179 false w' w.heap.size sd (zn l sd)∧yl w w':=by
 obtain ⟨a,F,rfl,xD,hc⟩:=hr
 have xn:∀ (k:Nat) (c:Od),l[k]? = some c→∃ b off,a = some (J b off)∧b < w.heap.size∧w.rangeAt b (off + k * 6) c.vs:=by
  intro k c hk
  obtain ⟨b,off,z,K,h3⟩:=hc (by intro h; rw [h] at hk; simp at hk)
  exact ⟨b,off,z,K,h3 k c hk⟩
 have HC:=Q xn
 have HL:=Q hl
 have HN:=Q hn
 clear xn hc hl
 have HZ:=Q (zTree_s w sd)
 have ua:Hid (yl w (w.alloc (Obj.cells Tryz.zeroCells179 179))):=eD _ _
 go_enter Tryz.func78,Tryz.ntmps78
 go_wp2_with fail
 generalize (w.alloc (Obj.cells Tryz.zeroCells179 179)) = W0 at HZ ua ⊢
 go_loopw [11] (fun i wr=>∃ k:Nat,k ≤ l.length∧i = H k∧aC 179 false wr w.heap.size sd (zn (l.take k) sd)∧yl w wr) (fun i _=>l.length - (intOf i).toNat)
 case atStart=>exact ⟨0,Nat.zero_le _,rfl,M HZ,M ua⟩
 case round =>
  obtain ⟨k,hk,rfl,kL,xe⟩:=hrel
  have vw:=Q kL
  have vY:=Q xe
  clear kL xe HZ ua
  by_cases xL:k < l.length
  ·obtain ⟨c,uC⟩:∃ c,l[k]? = some c:=⟨_,yE xL⟩
   have qW:=Q uC
   obtain ⟨b,off,rfl,hb,xk⟩:=M HC k c uC
   obtain ⟨g0,g1,g2,g3,g4,g5⟩:=zx (zb xk (M vY) hb)
   have uO:(k:Int) < l.length:=by omega
   clear uC xk hb
   by_cases uu:c.side = sd
   ·have HIT:Hid (zn (l.take (k + 1)) c.side = zn (l.take k) c.side ++ [c]):=ofSide_snoc l k c (M qW)
    subst uu
    have hlk:(zn (l.take k) c.side).length < 20:=by
     have z:(zn (l.take k) c.side).length ≤ (l.take k).length:=List.length_filter_le _ _
     have K:(l.take k).length ≤ k:=List.length_take_le _ _
     have h3:=M HN
     omega
    have HLK:=Q hlk
    have xk:=M HL c (yL (M qW))
    have HCL:=Q xk
    clear hlk xk
    go_wp2_with fail
    refine (add_s w.heap.size c.side (zn (l.take k) c.side) c _ (zt (M vw) (Below.heap_alloc wr _ _ (zJ (M vw)))) rfl (M HLK) (fun o' vk=>M HL o' (List.mem_of_mem_take (List.mem_filter.1 vk).1)) (M HCL)).mono ?_
    rintro e w2 ⟨rfl,pI,qj⟩
    rw [← M HIT] at pI
    have pj:=Q pI
    have xC:=Q (((M vY).alloc (M vY).size _).grown qj (by rw [ze]; have:=(M vY).size; omega) (fun g hg=>by obtain rfl:=Option.some.inj hg; exact Nat.le_refl _))
    clear pI qj
    go_wp2_with fail
    go_roundw
    case rel=>exact ⟨k + 1,by omega,by go_num,M pj,M xC⟩
    case measure=>simp [intOf]; omega
   ·have HIT:Hid (zn (l.take (k + 1)) sd = zn (l.take k) sd):=ofSide_skip l k c (M qW) uu
    go_wp2_with fail
    go_roundw
    case rel =>
     refine ⟨k + 1,by omega,by go_num,?_,?_⟩
     ·rw [M HIT]; exact zt (M vw) (Below.heap_alloc wr _ _ (zJ (M vw)))
     ·exact (M vY).alloc (M vY).size _
    case measure=>simp [intOf]; omega
  ·go_wp2_with fail
   go_ret
   have h:=M vw
   rw [yW (by omega)] at h
   exact ⟨rfl,h,M vY⟩
theorem infoH_s:(Tryz.prog.info? 166).map (fun i=>(i.zero,i.size,i.bytes)) = some (some (H 0),1,8):=by kernel_rfl
theorem cellsH_s (w:World) (cs:List Value) (t:TypeId) (j:Nat) (u:Value) (h:cs[j]? = some u):(w.alloc (Obj.cells cs.toArray t)).cell? (((yn w 0):Addr).add j) = some u:=by
 rw [Addr.add_mid,cell_of_row _ w.heap.size (0 + j) cs.toArray t (0,0) (heap_alloc_new w _)]
 simpa using h
def hval_s (h:Nat):Value:=H h
theorem ranked_s (S:TS) (b B:Nat) (hbB:b < B):∀ (t:Tr) (w:World) (v:Value) (done:List Nat) (part:Nat),TM 179 w b S→Rep S.nd t part→(∀ h ∈ t.hs,h < 21)→B ≤ w.heap.size →
  w.ownsRow B 166 1 v done.length (done.map hval_s)→done.length + t.hs.length ≤ 1000 →
  Calls Tryz.prog 157 #[I b 0,v,H part] w fun e w' =>
   ∃ v',e = yk v'∧w'.ownsRow B 166 1 v' (done ++ t.hs).length ((done ++ t.hs).map hval_s)∧Below B w w'
 | .nil,w,v,done,part,hT,hrep,hh,hB,xN,xD=>by
  obtain rfl:part = 0:=hrep
  have HO:=Q xN
  clear xN hT hh
  go_enter Tryz.func157,Tryz.ntmps157
  go_wp2_with fail
  go_ret
  exact ⟨v,rfl,by simpa [Tr.hs] using M HO,Below.refl _ _⟩
 | .node h l r,w,v,done,part,hT,hrep,hh,hB,xN,xD=>by
  obtain ⟨rfl,h0,hl,hr⟩:=hrep
  have HO:=Q xN
  have HT:=Q hT
  have HL:=Q hl
  have HR:=Q hr
  have oA:done.length + (l.hs.length + 1 + r.hs.length) ≤ 1000:=by simp [Tr.hs] at xD; omega
  have vE:=hh part (by simp [Tr.hs])
  have HHL:=Q (fun a (ha:a ∈ l.hs)=>hh a (by simp [Tr.hs,ha]))
  have HHR:=Q (fun a (ha:a ∈ r.hs)=>hh a (by simp [Tr.hs,ha]))
  have h21':(part:Int) < 21:=by omega
  have h0':¬ ((part:Int) = 0):=by omega
  have ju:=Q oA
  obtain ⟨-,-,-,-,n4,-⟩:=zN (hT.nd part vE)
  obtain ⟨i0,hi,uq,uw,uM⟩:=info_parts infoH_s
  clear xN hT hh hl hr xD oA
  go_enter Tryz.func157,Tryz.ntmps157
  go_wp2_with fail
  refine (ranked_s S b B hbB l w v done _ (M HT) (M HL) (M HHL) hB (M HO) (by have:=M ju; omega)).mono ?_
  rintro e w1 ⟨v1,rfl,vV,xR⟩
  have uZ:=Q vV
  have xT:=Q xR
  have hsz1:=xR.size
  have hla:(done ++ l.hs).length ≤ 999:=by have:=M ju; rw [yM]; omega
  obtain ⟨-,-,-,-,-,n5,-⟩:=zN ((cR (M HT) xR hbB).nd part vE)
  clear vV xR n4
  go_wp2_with (at_builtin; go_must (refine wpList_append_own _ rfl _ _ 195 rfl B 166 i0 _ 1 8 Tryz.underlying195 hi uq uw uM rfl (by decide) v1 (done ++ l.hs).length ((done ++ l.hs).map hval_s) rfl ((M uZ).alloc _) (yn w1 0) 1 1 [hval_s part] rfl rfl (cellsH_s w1 _ _) (by simp [Value.oneCell',hval_s]) (by unfold maxLen; omega) (by omega) (by simp at hla ⊢; omega) ?_); intro v2 w2 oB qj _; have vO:=Q oB; have xC:=Q (((M xT).alloc (yK hB hsz1) _).grown qj (by rw [ze]; omega) (fun k hk=>((M uZ).lt k hk).1)); have m5:=(zN ((cR (M HT) (M xC) hbB).nd part vE)).2.2.2.2.2.1; clear oB qj n5)
  have hsz2:=(M xC).size
  refine (ranked_s S b B hbB r w2 v2 (done ++ l.hs ++ [part]) _ (cR (M HT) (M xC) hbB) (M HR) (M HHR) (by omega) (by simpa [Nat.add_assoc] using M vO) (by have:=M ju; simp; omega)).mono ?_
  rintro e w3 ⟨v3,rfl,ho3,uf⟩
  have qB:=Q ho3
  have xM:=Q ((M xC).trans uf)
  clear ho3 uf m5
  go_wp2_with fail
  go_ret
  exact ⟨v3,rfl,by simpa [Tr.hs] using M qB,M xM⟩
theorem infoLv_s:(Tryz.prog.info? 168).map (fun i=>(i.zero,i.size,i.bytes)) = some (some (.agg #[H 0,H 0,H 0,H 0]),4,32):=by kernel_rfl
theorem takeR_s {α:Type} (l:List α) (k:Nat) (c:α) (h:l[k]? = some c):l.take (k + 1) = l.take k ++ [c]:=by
 obtain ⟨hk,rfl⟩:=yD.1 h
 rw [List.take_succ_eq_append_getElem hk]
theorem rowBase_s {W:World} {B B':Nat} {e:TypeId} {sz:Nat} {v:Value} {n:Nat} {xs:List Value} (h:W.ownsRow B e sz v n xs) (hB:B' ≤ B):W.ownsRow B' e sz v n xs :=
 ⟨h.1,by
  rcases h.2 with z | ⟨g',c',xp,z,K,h3⟩
  ·exact .inl z
  ·exact .inr ⟨g',c',xp,z,yK hB K,h3⟩⟩
theorem flat1_s (l:List Nat):(l.flatMap fun h=>[hval_s h]) = l.map hval_s:=by
 induction l with
 | nil=>rfl
 | cons a r ih=>rw [List.flatMap_cons,ih]; rfl
theorem levelsO_s (b:Nat) (sd:Int) (seq:List Od) (w:World) (h:aC 179 false w b sd seq) (hn:seq.length ≤ 20) :
  Calls Tryz.prog 128 #[I b 0] w fun e w' =>
   ∃ v',e = yk v'∧w'.ownsRow w.heap.size 168 4 v' (aB false sd seq).length ((aB false sd seq).flatMap Lv.vs)∧yl w w':=by
 obtain ⟨S,t,hT,hi,hq,vp⟩:=h
 have hlv:=dZ hi hq
 rw [← hlv]
 have qw:∀ a ∈ t.hs,a < 21:=fun a ha=>by have:=(hi.range a ha).2; omega
 have xD:t.hs.length ≤ 20:=by rw [hi.len]; omega
 have HT:=Q hT
 have HR:=Q hi.rep
 have HH:=Q qw
 have jF:=hT.root
 have jj:=tm_lt hT
 generalize ht:t.hs = hs at *
 have HHS:=Q ht
 have HNIL:=Q (World.ownsRow_nil w w.heap.size 166 1)
 obtain ⟨i0,uv,uq,uw,uM⟩:=info_parts infoLv_s
 clear hi hq vp hlv hT qw ht
 go_enter Tryz.func128,Tryz.ntmps128
 go_wp2_with fail
 refine (ranked_s S b w.heap.size jj t w _ [] S.root (M HT) (M HR) (by rw [M HHS]; exact M HH) tg (M HNIL) (by rw [M HHS]; simp; omega)).mono ?_
 rintro e w1 ⟨v1,rfl,vV,xR⟩
 rw [List.nil_append,M HHS] at vV
 have xT:=Q xR
 have HOR:=Q (bc (f:=fun h=>[hval_s h]) (fun _=>rfl) (by omega) (show w1.ownsRow w.heap.size 166 1 v1 hs.length (hs.flatMap fun h=>[hval_s h]) by rw [flat1_s]; exact vV))
 obtain ⟨a,F,rfl,_,hc⟩:=M HOR
 have xn:∀ k h,hs[k]? = some h→∃ g,a = some (J g 0)∧g < w1.heap.size∧w1.cell? (J g (0 + k * 1 + 0)) = some (H (h:Nat)):=fun k h hk=>by
  obtain ⟨g,z,_,h3,h4,_⟩:=hc (by intro e; rw [e] at hk; simp at hk)
  exact ⟨g,z,h3,h4 k h hk 0 _ rfl⟩
 have HC:=Q xn
 clear vV xR hc xn jF
 go_wp2_with fail
 have xR:=(M xT).size
 go_loopw [3,13] (fun ov iv wr=>∃ (k:Nat) (done:List Lv),k ≤ hs.length∧iv = H k∧Hid (done = (hs.map fun h=>(S.nd h).lv).take k)∧wr.ownsRow w1.heap.size 168 4 ov done.length (done.flatMap Lv.vs)∧yl w1 wr) (fun _ iv _=>hs.length - (intOf iv).toNat)
 case atStart=>exact ⟨0,[],Nat.zero_le _,rfl,by simp [Hid],World.ownsRow_nil _ _ _ _,Below.refl _ _⟩
 case round =>
  obtain ⟨k,done,hk,rfl,hd,xN,xe⟩:=hrel
  have HOW:=Q xN
  have HB:=Q xe
  have hdl:done.length = k:=by rw [M hd,List.length_take,List.length_map]; omega
  clear xN xe
  by_cases xL:k < hs.length
  ·obtain ⟨h,hkh⟩:∃ h,hs[k]? = some h:=⟨_,yE xL⟩
   have qW:Hid ((hs.map fun h=>(S.nd h).lv)[k]? = some (S.nd h).lv):=by show _ = _; rw [List.getElem?_map,hkh]; rfl
   obtain ⟨g,rfl,hg,xk⟩:=M HC k h hkh
   have vE:=M HH h (yL hkh)
   have h21':(h:Int) < 21:=by omega
   have vS:=((M HB).cell (p:=(J g (0 + k * 1 + 0))) hg).trans xk
   rw [show 0 + k * 1 + 0 = k by omega] at vS
   have hTr:=cR (M HT) ((M xT).trans ((M HB).mono xR)) jj
   obtain ⟨n0,n1,n2,n3,-⟩:=zN (hTr.nd h vE)
   have uO:(k:Int) < hs.length:=by omega
   have hsr:=(M HB).size
   clear hkh xk hTr hg
   go_wp2_with (at_builtin; go_must (refine wpList_append_own _ rfl _ _ 133 rfl w1.heap.size 168 i0 _ 4 32 Tryz.underlying133 uv uq uw uM rfl (by decide) _ done.length (done.flatMap Lv.vs) rfl ((M HOW).alloc _) (yn wr 0) 1 1 (S.nd h).lv.vs rfl rfl (cellsH_s wr _ _) (by simp [Value.oneCell',Lv.vs,Nd.lv]) (by unfold maxLen; omega) (by omega) (by simp; omega) ?_); intro v4 w4 jd km _)
   go_roundw
   case rel =>
    refine ⟨k + 1,done ++ [(S.nd h).lv],by omega,by go_num,?_,?_,?_⟩
    ·show done ++ [(S.nd h).lv] = _
     rw [takeR_s _ k _ (M qW),← M hd]
    ·simpa using jd
    ·exact ((M HB).alloc hsr _).grown km (by simp; omega) fun k hk=>((M HOW).lt k hk).1
   case measure=>simp [intOf]; omega
  ·go_wp2_with fail
   go_ret
   have h:=M hd
   rw [yW (by rw [List.length_map]; omega)] at h
   subst h
   exact ⟨_,rfl,rowBase_s (M HOW) xR,(M xT).trans ((M HB).mono xR)⟩
theorem levels_s (b:Nat) (sd:Int) (seq:List Od) (w:World) (h:aC 179 false w b sd seq) (hn:seq.length ≤ 20) :
  Calls Tryz.prog 128 #[I b 0] w fun e w' =>
   ∃ v',e = yk v'∧OwnR Lv.vs 4 w.heap.size w' v' (aB false sd seq)∧yl w w':=by
 have xD:(aB false sd seq).length ≤ 20:=by
  obtain ⟨S,t,hT,hi,hq,vp⟩:=h
  rw [← dZ hi hq,List.length_map,hi.len]; omega
 refine (levelsO_s b sd seq w h hn).mono ?_
 rintro e w' ⟨v',rfl,Y,hb⟩
 exact ⟨v',rfl,bc Lv.len (by omega) Y,hb⟩
end Go.Proofs.YtbakanofkghmiaaGreat
