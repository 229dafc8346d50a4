/-
  The end of a day, by the engine: proved by walking the method.
-/
import Derived.Test.YtbakanofkghmiaaGreatPj28
set_option linter.unusedVariables false
set_option maxHeartbeats 6400000
set_option maxRecDepth 100000
namespace Go.Proofs.YtbakanofkghmiaaGreat
open Go.RowKit
def dyB (o:Od):Bool:=o.life == 1
def expE (o:Od):Ev:=⟨9,zCm,o.id,0,o.left,0,0⟩
theorem take_dy {l:List Od} {j:Nat} {o:Od} (h:l[j]? = some o) (hd:o.life = 1):(l.take (j + 1)).filter dyB = (l.take j).filter dyB ++ [o]:=by
 rw [List.take_add_one,h,List.filter_append]
 simp [dyB,hd]
theorem take_no {l:List Od} {j:Nat} {o:Od} (h:l[j]? = some o) (hd:o.life ≠ 1):(l.take (j + 1)).filter dyB = (l.take j).filter dyB:=by
 rw [List.take_add_one,h,List.filter_append]
 simp [dyB,hd]
theorem ev_more (xU:List Od) (ts:List Ev) (n:Int) {k:Nat} {o:Od} (h:xU[k]? = some o):ts ++ [⟨8,zCm,0,0,n,0,0⟩] ++ (xU.take (k + 1)).map expE = (ts ++ [⟨8,zCm,0,0,n,0,0⟩] ++ (xU.take k).map expE) ++ [expE o]:=by
 rw [List.take_add_one,h]; simp
theorem deleteDay_nil (w:World) :
  Calls Tryz.prog 119 #[.slice none 0 0,.func (.func 118) #[] #[]] w fun e w'=>e = yk (.slice none 0 0)∧yl w w':=by
 go_enter Tryz.func119,Tryz.ntmps119
 go_wp2_with fail
 refine (indexDay_any (.slice none 0 0) [] w ⟨none,0,rfl,by simp,fun h=>absurd rfl h⟩).mono ?_
 rintro e w2 ⟨rfl,ue⟩
 have hf:fdy [] = -1:=rfl
 rw [hf]
 have HB:=Q ue
 clear ue
 go_wp2_with fail
 go_ret
 exact ⟨rfl,M HB⟩
theorem deleteDay_row (B:Nat) (v:Value) (l:List Od) (w:World) (hn:l.length ≤ 1000) (Y:ORow w B v l) :
  Calls Tryz.prog 119 #[v,.func (.func 118) #[] #[]] w fun e w'=>∃ v',e = yk v'∧ORow w' B v' (l.filter ndy)∧w.grownBy w' v.ownBlock∧v'.oneCell' = true:=by
 rcases Y.2 with ⟨rfl,h0⟩ | ⟨g,F,xp,rfl,_⟩
 ·obtain rfl:=List.length_eq_zero_iff.1 h0
  refine (deleteDay_nil w).mono ?_
  rintro e w2 ⟨rfl,ue⟩
  exact ⟨_,rfl,World.ownsRow_nil _ _ _ _,zU ue tg,rfl⟩
 ·refine (deleteDay_any g F B l w hn Y).mono ?_
  rintro e w2 ⟨rfl,ho2,qj⟩
  exact ⟨_,rfl,ho2,qj,rfl⟩
theorem endDayE_any {N B Bo:Nat} {gv:Value} {gs:List Value} {gl:List (List Ev)} {next:Int} {vq:Value} {l:List Od} {t:Tot} {vo:Value} {ts:List Ev} (w:World) (h:EnS N B Bo w gv gs gl next vq l t vo ts) (hl:l.length ≤ 100) (hn:ts.length ≤ 100) :
  Calls Tryz.prog 70 #[I N 0] w fun r w'=>r = yk (.tuple #[])∧(∃ uV qh,EnS N B Bo w' gv gs gl next uV (l.filter ndy) t qh (ts ++ [⟨8,zCm,0,0,((l.filter dyB).length:Nat),0,0⟩] ++ (l.filter dyB).map expE))∧KeptBut N B w w':=by
 obtain ⟨i0,uv,uq,uw,uM⟩:=info_parts Tryz.infoOrder
 have HE:=Q h
 have qr:=h.lt
 have oL:B ≤ w.heap.size:=yK h.bo h.le
 obtain ⟨a,F,hvq,xD,hc⟩:=zT h.orow (by omega)
 have xn:∀ (k:Nat) (c:Od),l[k]? = some c→∃ b off,a = some (J b off)∧b < w.heap.size∧w.rangeAt b (off + k * 6) c.vs:=by
  intro k c hk
  obtain ⟨b,off,z,K,h3⟩:=hc (by intro h; rw [h] at hk; simp at hk)
  exact ⟨b,off,z,K,h3 k c hk⟩
 have HC:=Q xn
 have z2:w.cell? (J N 2) = some (.slice a l.length F):=by rw [← hvq]; exact h.cells 2 _ rfl
 have HVQ:=Q hvq
 clear xn hc xD h hvq
 go_enter Tryz.func70,Tryz.ntmps70
 refine eH fun h2 xu=>?_
 go_wp2_with fail
 refine M xu _ _ ?_
 clear xu
 refine eH fun h2 xu=>?_
 go_wp2_with fail
 clear z2
 go_loopw [2,14] (fun gov iv wr=>∃ (k:Nat),k ≤ l.length∧iv = H k∧Hid (ORow wr w.heap.size gov ((l.take k).filter dyB)∧yl w wr)) (fun _ iv _=>l.length - (intOf iv).toNat)
 case atStart=>exact ⟨0,Nat.zero_le _,rfl,⟨World.ownsRow_nil _ _ _ _,Below.refl _ _⟩⟩
 case round =>
  obtain ⟨k,hk,rfl,uT⟩:=hrel
  by_cases xL:k < l.length
  ·obtain ⟨c,uC⟩:∃ c,l[k]? = some c:=⟨_,yE xL⟩
   obtain ⟨b,off,rfl,hb,xk⟩:=M HC k c uC
   obtain ⟨g0,g1,g2,g3,g4,g5⟩:=zx (zb xk (M uT).2 hb)
   have uO:(k:Int) < l.length:=by omega
   have qW:=Q uC
   have kf:=(M uT).2.size
   have uE:Hid (yl wr (wr.alloc (E (yt c.id c.side c.ticks c.left c.life c.tag).toArray 49))):=eD _ _
   have HBR:Hid (World.rangeAt (wr.alloc (E (yt c.id c.side c.ticks c.left c.life c.tag).toArray 49)) wr.heap.size 0 c.vs):=zg wr c.vs _
   have hsx:wr.heap.size < (wr.alloc (E (yt c.id c.side c.ticks c.left c.life c.tag).toArray 49)).heap.size:=by rw [ze]; omega
   have px:World.cell? (wr.alloc (E (yt c.id c.side c.ticks c.left c.life c.tag).toArray 49)) (yn wr 0) = some (H c.id):=M HBR 0 _ rfl
   clear uC xk hb px
   go_wp2_with fail
   generalize (wr.alloc (E (yt c.id c.side c.ticks c.left c.life c.tag).toArray 49)) = ho at uE HBR hsx ⊢
   refine (er c ho).mono ?_
   rintro e w3 ⟨rfl,uf⟩
   have xM:=Q (eG (M uE) uf)
   have oR:=zb (M HBR) uf hsx
   have kp:wr.heap.size < w3.heap.size:=yG hsx uf.size
   clear uf g0 g1 g2 g3 g4 g5
   have qB:=Q (zj (M uT).1 (M xM))
   have HW3:=Q ((M uT).2.trans ((M xM).mono kf))
   by_cases hd:c.life = 1
   ·have hbd:(c.life == 1) = true:=by simpa using hd
    have HN:=Q (take_dy (M qW) hd)
    have hlg:((l.take k).filter dyB).length ≤ 100:=yK (List.length_filter_le _ _) (yK (List.length_take_le _ _) (by omega))
    obtain ⟨x0,x1,x2,x3,x4,x5⟩:=yz oR
    have kQ:=Q ((M qB).alloc (E (yt c.id c.side c.ticks c.left c.life c.tag).toArray 49))
    have jK:=Q ((M HW3).alloc (M HW3).size (E (yt c.id c.side c.ticks c.left c.life c.tag).toArray 49))
    generalize hgl:(l.take k).filter dyB = xU at qB kQ HN hlg
    clear hd oR hgl uT
    go_wp2_with (at_builtin; go_must (refine wpList_append_own _ rfl _ _ 26 rfl w.heap.size 49 i0 _ 6 56 Tryz.underlying26 uv uq uw uM rfl (by decide) u2 xU.length (xU.flatMap Od.vs) rfl (M kQ) (yn w3 0) 1 1 c.vs rfl rfl (bQ w3 c.vs 49) (one_od c) (by unfold maxLen; omega) (by omega) (M jK).size ?_); intro v5 w5 un vu _; have pf:=Q un; have jS:=Q vu; clear un vu)
    have HN5:Hid (ORow w5 w.heap.size v5 ((l.take (k + 1)).filter dyB)∧yl w w5):=by
     refine ⟨?_,(M jK).grown (M jS) (M jK).size (fun q hq=>((M kQ).lt q hq).1)⟩
     rw [M HN]
     show w5.ownsRow _ _ _ _ (xU ++ [c]).length _
     rw [yM,List.flatMap_append]
     simpa using M pf
    clear pf jS
    go_wp2_with fail
    go_roundw
    case rel=>exact ⟨k + 1,by omega,by go_num,M HN5⟩
    case measure=>simp [intOf]; omega
   ·have hbd:(c.life == 1) = false:=by rw [xa]; exact hd
    have HN5:Hid (ORow w3 w.heap.size u2 ((l.take (k + 1)).filter dyB)∧yl w w3):=by
     rw [take_no (M qW) hd]
     exact ⟨M qB,M HW3⟩
    clear hd oR
    go_wp2_with fail
    go_roundw
    case rel=>exact ⟨k + 1,by omega,by go_num,M HN5⟩
    case measure=>simp [intOf]; omega
  ·obtain rfl:k = l.length:=by omega
   rw [yW tg] at uT
   have uO:¬ (l.length:Int) < l.length:=by omega
   have hlg:(l.filter dyB).length ≤ 100:=yK (List.length_filter_le _ _) hl
   have HIN:=Q (M uT)
   generalize hgo:l.filter dyB = xU at HIN hlg
   have HGO:=Q hgo
   obtain ⟨ag,cg,hu2,hu3,hu4⟩:=zT (M HIN).1 (by omega)
   have HE0:=Q (zS (M HE) (M HIN).2)
   subst hu2
   have HK0:Hid (KeptBut N B w wr):=zC (M HIN).2 oL
   clear uT hgo hu3 hu4
   go_wp2_with fail
   refine M xu _ _ ?_
   clear xu
   refine eH fun h2 xu=>?_
   go_wp2_with fail
   refine (cB ⟨8,zCm,0,0,(xU.length:Nat),0,0⟩ wr (M HE0) (by omega)).mono ?_
   rintro e w5 ⟨rfl,⟨vo5,qq⟩,ox,ht5⟩
   have ux:Hid (ORow w5 w.heap.size (.slice ag xU.length cg) xU∧(∃ qh,EnS N B Bo w5 gv gs gl next vq l t qh (ts ++ [⟨8,zCm,0,0,(xU.length:Nat),0,0⟩] ++ (xU.take 0).map expE))∧KeptBut N B w w5):=⟨aR (M HIN).1 ht5 (zo (M HIN).1 (M HE0).box (by decide)) (zD (M HIN).1 (M HE0).erow (by decide)),⟨vo5,by simpa using qq⟩,zk (M HK0) ox⟩
   clear qq ox ht5 HIN HE0 HK0
   go_wp2_with fail
   refine M xu _ _ ?_
   clear xu
   refine eH fun h2 xu=>?_
   go_wp2_with fail
   go_loopw [32] (fun iv wr2=>∃ (k:Nat),k ≤ xU.length∧iv = H k∧Hid (ORow wr2 w.heap.size (.slice ag xU.length cg) xU∧(∃ qh,EnS N B Bo wr2 gv gs gl next vq l t qh (ts ++ [⟨8,zCm,0,0,(xU.length:Nat),0,0⟩] ++ (xU.take k).map expE))∧KeptBut N B w wr2)) (fun iv _=>xU.length - (intOf iv).toNat)
   case atStart=>exact ⟨0,Nat.zero_le _,rfl,M ux⟩
   case round =>
    obtain ⟨k,hk2,rfl,hin2⟩:=hrel
    obtain ⟨hor,⟨vo6,jM⟩,ko⟩:=M hin2
    by_cases pB:k < xU.length
    ·obtain ⟨o,kU⟩:∃ o,xU[k]? = some o:=⟨_,yE pB⟩
     obtain ⟨a',c',e1,_,xk⟩:=zT hor (by omega)
     obtain ⟨b,off,e2,hb,xk⟩:=xk (by rintro rfl; simp at kU)
     simp only [Value.slice.injEq] at e1
     obtain ⟨e1,-,-⟩:=e1
     rw [e2] at e1
     subst e1
     obtain ⟨g0,g1,g2,g3,g4,g5⟩:=zx (xk k o kU)
     have hlt2':(k:Int) < xU.length:=by omega
     have hk0:(0:Int) ≤ k:=by omega
     have qd:=eD wr (E (yt o.id o.side o.ticks o.left o.life o.tag).toArray 49)
     have HEY:=Q (zS jM qd)
     have HOY:=Q (zj hor qd)
     have HKY:=Q (zk ko (zC qd (by have:=jM.bo; have:=jM.le; omega)))
     have HNX:=Q (ev_more xU ts (xU.length:Nat) kU)
     have HLN:Hid ((ts ++ [(⟨8,zCm,0,0,(xU.length:Nat),0,0⟩:Ev)] ++ (xU.take k).map expE).length ≤ 1000):=by
      show _ ≤ _
      simp [List.length_take]; omega
     clear hor jM ko xk qd kU e2 hb
     go_wp2_with fail
     generalize (wr.alloc (E (yt o.id o.side o.ticks o.left o.life o.tag).toArray 49)) = ho at HEY HOY HKY ⊢
     refine (cB (expE o) ho (M HEY) (M HLN)).mono ?_
     rintro e w6 ⟨rfl,⟨vo7,hE7⟩,hk7,ht7⟩
     have HN:Hid (ORow w6 w.heap.size (.slice (some (J b off)) xU.length cg) xU∧(∃ qh,EnS N B Bo w6 gv gs gl next vq l t qh (ts ++ [⟨8,zCm,0,0,(xU.length:Nat),0,0⟩] ++ (xU.take (k + 1)).map expE))∧KeptBut N B w w6):=⟨aR (M HOY) ht7 (zo (M HOY) (M HEY).box (by decide)) (zD (M HOY) (M HEY).erow (by decide)),⟨vo7,by rw [M HNX]; exact hE7⟩,zk (M HKY) hk7⟩
     clear hE7 hk7 ht7
     go_wp2_with fail
     go_roundw
     case rel=>exact ⟨k + 1,by omega,by go_num,M HN⟩
     case measure=>simp [intOf]; omega
    ·obtain rfl:k = xU.length:=by omega
     rw [yW tg] at jM
     have hlt2':¬ (xU.length:Int) < xU.length:=by omega
     have vZ:=Q jM
     have pR:=Q ko
     clear hor jM ko
     go_wp2_with fail
     refine M xu _ _ ?_
     clear xu
     have z2:wr.cell? (J N 2) = some vq:=(M vZ).cells 2 _ rfl
     go_wp2_with fail
     refine (deleteDay_row B vq l wr (by omega) (M vZ).orow).mono ?_
     rintro e w7 ⟨uV,rfl,ho7,hg7,-⟩
     have qx:some N ≠ vq.ownBlock:=zo (M vZ).orow (M vZ).box (by decide)
     have y2:w7.cell? (J N 2) = some vq:=hg7.cell z2 qx
     have f2:w7.frozen? (J N 2) = false:=(World.frozen?_of_block (a:=(J N 2)) (hg7.block N (M vZ).lt qx)).trans (by have:=((M vZ).there 2 (by omega)).2; rwa [Nat.zero_add] at this)
     obtain ⟨aq,cq,qy,-,-⟩:=zT ho7 (yK (List.length_filter_le _ _) (by omega))
     subst qy
     have hbx7:∃ xp,w7.heap[N]? = some (.cells xp 71 (0,0)):=by obtain ⟨xp,hc⟩:=(M vZ).box; exact ⟨xp,(hg7.block N (M vZ).lt qx).trans hc⟩
     have ht8:TookAt N 1 vq.ownBlock wr (w7.setCell (J N 2) (.slice aq (l.filter ndy).length cq)):=bU (bD hg7 (M vZ).lt qx) (df (o:=1) _ _)
     have HE8:=Q (ens_took (M vZ) (yJ _ _ _ y2) (zw ho7 (zo ho7 hbx7 (by decide)) 2 _) ht8)
     have HK8:=Q (zk (M pR) (cK ht8 (yK (M vZ).bo (M vZ).le) (fun g' hg'=>((M vZ).orow.lt g' hg').1)))
     clear ho7 hg7 ht8 hbx7 z2
     go_wp2_with fail
     go_end0
     rw [M HGO]
     exact ⟨rfl,⟨_,vo6,M HE8⟩,M HK8⟩
theorem rest_took (N B:Nat) (next:Int) (vq:Value) (l:List Od) (t:Od) (vt:Value) (ts:List Ev) (w:World) (h:MatS N B w next vq l t vt ts) (hn:l.length ≤ 1000) :
  Calls Tryz.prog 115 #[I N 0] w fun e w'=>∃ uV,e = yk (.tuple #[])∧MatS N B w' next uV (l ++ [t]) t vt ts∧TookAt N 0 vq.ownBlock w w':=by
 have HM:=Q h
 have qr:=h.lt
 have oL:=h.le
 have qx:=h.nq
 have uE:=Q h.box
 have jw:=Q h.orow
 have hM:=Q h.cells
 have qa:Hid (w.cell? (J N 1) = some vq):=M hM 1 _ rfl
 have pN:Hid (w.frozen? (J N 1) = false):=by have:=(h.there 1 (by omega)).2; rwa [Nat.zero_add] at this
 clear h
 obtain ⟨i0,uv,uq,uw,uM⟩:=info_parts Tryz.infoOrder
 go_enter Tryz.func115,Tryz.ntmps115
 go_wp2_with fail
 refine zi (RT (fun V=>yl w V) (fun f=>{ tmps:=#[I N 0,Z,f 0,f 1,f 2,f 3,f 4,f 5,f 6,f 7,f 8,f 9,f 10,f 11,f 12,f 13,f 14],defers:=[] }) 11 15 (DR N B w vq l t)) (by kernel_rfl) ?_ ?_ ?_
 ·exact ⟨fun _=>Z,rfl,fun _=>⟨rfl,rfl,rfl,Nat.le_refl _,fun _ _=>rfl⟩,fun j L=>by rw [yF] at L; split at L <;> simp at L⟩
 ·rintro x hR V ⟨f,rfl,-,U⟩ hx xK
  have xm:=aK xK hx (acyc _ (by kernel_rfl))
  have oD:x[11]? = some true:=xm 11 (by simp)
  have k15:x[15]? = some true:=xm 15 (by simp)
  obtain ⟨va,vc,-,-,-,uX⟩:=U 11 oD
  obtain ⟨q1,q2,q3⟩:=uX k15
  have vd:Hid (_∧_∧_):=⟨q1,q2,q3⟩
  clear U xm xK hx oD k15 uX q1 q2 q3
  dsimp only
  go_wp2_with fail
  go_end0
  exact ⟨_,rfl,matS_took (M HM) (M vd).2.2 (M vd).1 (M vd).2.1,(M vd).2.2⟩
 ·rintro x hR V i op ⟨f,rfl,jj,U⟩ xk hx Y xq D
  have xW:=Q jj
  have HD:=Q U
  have xj:∀ b o u,w.cell? (J b o) = some u→¬ x[11]? = some true→V.cell? (J b o) = some u:=fun b o u hu hn11=>((M xW hn11).cell (p:=(J b o)) (yH w _ hu)).trans hu
  have pJ:i < 11→0 < i→¬ x[11]? = some true:=fun xL vW uL=>by
   have h5:=yd xk 11 rfl uL 5 rfl
   have vL:=yd xk 11 rfl uL 10 rfl
   have h4:=yd xk 5 rfl h5 4 rfl
   have h9:=yd xk 10 rfl vL 9 rfl
   have h3:=yd xk 4 rfl h4 3 rfl
   have h8:=yd xk 9 rfl h9 8 rfl
   have K:=yd xk 3 rfl h3 2 rfl
   have h7:=yd xk 8 rfl h8 7 rfl
   have z:=yd xk 2 rfl K 1 rfl
   have h6:=yd xk 7 rfl h7 6 rfl
   have ub:∀ j,0 < j→j < 11→x[j]? = some true:=fun j jk L=>by
    rcases (by omega:j = 1 ∨ j = 2 ∨ j = 3 ∨ j = 4 ∨ j = 5 ∨ j = 6 ∨ j = 7 ∨ j = 8 ∨ j = 9 ∨ j = 10) with rfl | rfl | rfl | rfl | rfl | rfl | rfl | rfl | rfl | rfl <;> assumption
   rw [ub i vW xL] at xq; cases xq
  have n15':i < 15→¬ x[15]? = some true:=fun xL vl=>by
   have qY:=yd xk 15 rfl vl 14 rfl
   have uL:=yd xk 15 rfl vl 11 rfl
   have jA:=yd xk 14 rfl qY 13 rfl
   have h5:=yd xk 11 rfl uL 5 rfl
   have vL:=yd xk 11 rfl uL 10 rfl
   have qp:=yd xk 13 rfl jA 12 rfl
   have h4:=yd xk 5 rfl h5 4 rfl
   have h9:=yd xk 10 rfl vL 9 rfl
   have h0:=yd xk 12 rfl qp 0 rfl
   have h3:=yd xk 4 rfl h4 3 rfl
   have h8:=yd xk 9 rfl h9 8 rfl
   have K:=yd xk 3 rfl h3 2 rfl
   have h7:=yd xk 8 rfl h8 7 rfl
   have z:=yd xk 2 rfl K 1 rfl
   have h6:=yd xk 7 rfl h7 6 rfl
   have ub:∀ j,j < 15→x[j]? = some true:=fun j L=>by
    rcases (by omega:j = 0 ∨ j = 1 ∨ j = 2 ∨ j = 3 ∨ j = 4 ∨ j = 5 ∨ j = 6 ∨ j = 7 ∨ j = 8 ∨ j = 9 ∨ j = 10 ∨ j = 11 ∨ j = 12 ∨ j = 13 ∨ j = 14) with rfl | rfl | rfl | rfl | rfl | rfl | rfl | rfl | rfl | rfl | rfl | rfl | rfl | rfl | rfl <;> assumption
   rw [ub i xL] at xq; cases xq
  clear xk jj
  match i,Y with
  | 0,Y | 1,Y | 6,Y =>
   obtain rfl:=hD Y
   clear D U
   rw [if_pos (by rfl)];unfold Oper.wp;go_simp
   exact ⟨upd f _ (I N 0),by simp [upd],zy (M HD) (by decide) (by decide) (fun _ _ h=>h) (M xW) rfl⟩
  | 2,Y =>
   obtain rfl:=hD Y
   have g:f 1 = I N 0:=U 1 (yc D 1 rfl)
   clear D U
   rw [if_pos (by rfl)];unfold Oper.wp;go_simp
   exact ⟨upd f 2 (I N 0),by simp [upd,g],zy (M HD) (by decide) (by decide) (fun _ _ h=>h) (M xW) rfl⟩
  | 3,Y =>
   obtain rfl:=hD Y
   have g:f 2 = I N 0:=U 2 (yc D 2 rfl)
   clear D U
   rw [if_pos (by rfl)];unfold Oper.wp;go_simp
   exact ⟨upd f 3 (I N 0),by simp [upd,g],zy (M HD) (by decide) (by decide) (fun _ _ h=>h) (M xW) rfl⟩
  | 4,Y =>
   obtain rfl:=hD Y
   have g:f 3 = I N 0:=U 3 (yc D 3 rfl)
   clear D U
   rw [if_pos (by rfl)];unfold Oper.wp;go_simp
   exact ⟨upd f 4 (I N 1),by simp [upd,g],zy (M HD) (by decide) (by decide) (fun _ _ h=>h) (M xW) rfl⟩
  | 5,Y =>
   obtain rfl:=hD Y
   have g:f 4 = I N 1:=U 4 (yc D 4 rfl)
   have ql:=pJ (by omega) (by omega)
   have y1:=xj N 1 _ (M qa) ql
   clear D U
   rw [if_pos (by rfl)];unfold Oper.wp;go_simp
   exact ⟨upd f 5 (vq),by simp [upd,g],zy (M HD) (by decide) (by decide) (fun _ _ h=>h) (M xW) rfl⟩
  | 7,Y =>
   obtain rfl:=hD Y
   have g:f 6 = I N 0:=U 6 (yc D 6 rfl)
   clear D U
   rw [if_pos (by rfl)];unfold Oper.wp;go_simp
   exact ⟨upd f 7 (I N 0),by simp [upd,g],zy (M HD) (by decide) (by decide) (fun _ _ h=>h) (M xW) rfl⟩
  | 8,Y =>
   obtain rfl:=hD Y
   have g:f 7 = I N 0:=U 7 (yc D 7 rfl)
   clear D U
   rw [if_pos (by rfl)];unfold Oper.wp;go_simp
   exact ⟨upd f 8 (I N 2),by simp [upd,g],zy (M HD) (by decide) (by decide) (fun _ _ h=>h) (M xW) rfl⟩
  | 9,Y =>
   obtain rfl:=hD Y
   have g:f 8 = I N 2:=U 8 (yc D 8 rfl)
   have ql:=pJ (by omega) (by omega)
   have y2:=xj N 2 _ (M hM 2 _ rfl) ql
   have y3:=xj N 3 _ (M hM 3 _ rfl) ql
   have y4:=xj N 4 _ (M hM 4 _ rfl) ql
   have y5:=xj N 5 _ (M hM 5 _ rfl) ql
   have y6:=xj N 6 _ (M hM 6 _ rfl) ql
   have y7:=xj N 7 _ (M hM 7 _ rfl) ql
   clear D U
   rw [if_pos (by rfl)];unfold Oper.wp;go_simp
   exact ⟨upd f 9 (.agg (yt t.id t.side t.ticks t.left t.life t.tag).toArray),by simp [upd,g],zy (M HD) (by decide) (by decide) (fun _ _ h=>h) (M xW) rfl⟩
  | 10,Y =>
   obtain rfl:=hD Y
   have g:f 9 = .agg (yt t.id t.side t.ticks t.left t.life t.tag).toArray:=U 9 (yc D 9 rfl)
   have ql:=pJ (by omega) (by omega)
   have xZ:=M xW ql
   clear D U
   rw [if_pos (by rfl)];unfold Oper.wp;go_simp
   refine ⟨upd f 10 (.slice (some (yn V 0)) 1 1),by simp [upd,g],zy (M HD) (by decide) (by decide) (dr_alloc ql) (fun _=>xZ.alloc xZ.size _) ⟨V.heap.size,rfl,fun _=>?_⟩⟩
   exact fun j u h=>bQ V t.vs 49 j u h
  | 11,Y =>
   obtain rfl:=hD Y
   have g5:f 5 = vq:=U 5 (yc D 5 rfl)
   obtain ⟨s,vP,oS⟩:=U 10 (yc D 10 rfl)
   have ql:¬ x[11]? = some true:=by rw [xq]; simp
   have n15:=n15' (by omega)
   have xZ:=M xW ql
   have uD:ORow V B vq l:=zj (M jw) xZ
   rw [if_pos (by rfl)]
   refine wp_append_own V (.tmp 7) (.tmp 12) 26 rfl B 49 i0 _ 6 56 Tryz.underlying26 uv uq uw uM rfl (by decide) vq l.length (l.flatMap Od.vs) g5 uD (J s 0) 1 1 t.vs vP rfl (oS ql) (one_od t) (by unfold maxLen; omega) (by omega) (by have:=xZ.size; omega) ?_
   intro v' w' xN ut _
   obtain ⟨ga,gc,rfl⟩:=dO xN (by omega)
   refine ⟨upd f 11 (.slice (some (J ga 0)) (l.length + 1) gc),rfl,rt_one (by decide) (M HD) xq n15 (fun j v L h=>dr_one j v L h) ⟨some (J ga 0),gc,rfl,trivial,fun _=>⟨?_,?_⟩,fun h=>h.elim⟩⟩
   ·show World.ownsRow _ _ _ _ _ (l ++ [t]).length _
    rw [yM,List.flatMap_append]; simpa using xN
   ·exact (zU xZ tg).trans ut
  | 12,Y =>
   obtain rfl:=hD Y
   have g:f 0 = I N 0:=U 0 (yc D 0 rfl)
   clear D U
   rw [if_pos (by rfl)];unfold Oper.wp;go_simp
   exact ⟨upd f 12 (I N 0),by simp [upd,g],zy (M HD) (by decide) (by decide) (fun _ _ h=>h) (M xW) rfl⟩
  | 13,Y =>
   obtain rfl:=hD Y
   have g:f 12 = I N 0:=U 12 (yc D 12 rfl)
   clear D U
   rw [if_pos (by rfl)];unfold Oper.wp;go_simp
   exact ⟨upd f 13 (I N 0),by simp [upd,g],zy (M HD) (by decide) (by decide) (fun _ _ h=>h) (M xW) rfl⟩
  | 14,Y =>
   obtain rfl:=hD Y
   have g:f 13 = I N 0:=U 13 (yc D 13 rfl)
   clear D U
   rw [if_pos (by rfl)];unfold Oper.wp;go_simp
   exact ⟨upd f 14 (I N 1),by simp [upd,g],zy (M HD) (by decide) (by decide) (fun _ _ h=>h) (M xW) rfl⟩
  | 15,Y =>
   obtain rfl:=hD Y
   have jU:f 14 = I N 1:=U 14 (yc D 14 rfl)
   have oD:x[11]? = some true:=D ⟨11,.data⟩ (by simp) rfl
   have n15:¬ x[15]? = some true:=by rw [xq]; simp
   obtain ⟨ga,gc,vr,-,hfa,-⟩:=U 11 oD
   obtain ⟨jC,ut⟩:=hfa n15
   have qK:some N ≠ vq.ownBlock:=qx
   have y1:=ut.cell (M qa) qK
   have f1:V.frozen? (J N 1) = false:=(World.frozen?_of_block (a:=(J N 1)) (ut.block N (by omega) qK)).trans (M pN)
   have jt:=Q (vr ▸ jC)
   have oY:Hid (∃ xp,V.heap[N]? = some (.cells xp 157 (0,0))):=by obtain ⟨xp,hc⟩:=M uE; exact ⟨xp,(ut.block N (by omega) qK).trans hc⟩
   have pQ:=Q ut
   clear D U jC ut hfa
   rw [if_pos (by rfl)];unfold Oper.wp;go_simp
   refine ⟨upd f 15 Z,by simp [upd,jU,vr],rt_two (by decide) (M HD) oD xq (fun j L hxj h=>dr_two j L h (fun hj11=>?_)) trivial⟩
   subst hj11
   obtain ⟨-,-,-,-,-,-⟩:=h
   refine ⟨ga,gc,vr,trivial,fun h=>absurd trivial h,fun _=>?_⟩
   rw [vr]
   refine ⟨yJ _ _ _ y1,zw (M jt) (zo (M jt) (M oY) (by decide)) 1 _,?_⟩
   exact bU (bD (M pQ) (by omega) qK) (df (o:=0) _ _)
  | i + 16,Y=>simp at Y
theorem gqY {x:List Bool} {i j:Nat} (h:i ≠ j):(x.set i true)[j]? = x[j]?:=yT h
theorem gqsY {x:List Bool} {i:Nat} (h:x[i]? = some false):(x.set i true)[i]? = some true:=List.getElem?_set_self (yD.1 h).1
def ancS (l:List Oper) (s:List Nat):List Nat:=s ++ s.flatMap fun i=>match l[i]? with
 | some o=>(o.after.toList.filter fun e=>Region.binds .any e).map fun e=>e.on
 | none=>[]
def ancN (l:List Oper):Nat→List Nat→List Nat
 | 0,s=>s
 | n + 1,s=>ancN l n (ancS l s).eraseDups
theorem ancS_true {l:List Oper} {x:List Bool} (hc:Closed l x) {s:List Nat} (hs:∀ i ∈ s,x[i]? = some true):∀ i ∈ ancS l s,x[i]? = some true:=by
 intro i hi
 rcases List.mem_append.1 hi with h | h
 ·exact hs i h
 ·obtain ⟨k,hk,hm⟩:=List.mem_flatMap.1 h
  split at hm
  ·next o Y =>
   obtain ⟨e,he,rfl⟩:=List.mem_map.1 hm
   obtain ⟨he1,he2⟩:=List.mem_filter.1 he
   exact hc k o Y (hs k hk) e (by simpa using he1) he2
  ·simp at hm
theorem ancN_true {l:List Oper} {x:List Bool} (hc:Closed l x):∀ (n:Nat) (s:List Nat),(∀ i ∈ s,x[i]? = some true)→∀ i ∈ ancN l n s,x[i]? = some true
 | 0,s,hs=>hs
 | n + 1,s,hs=>ancN_true hc n _ (fun i hi=>ancS_true hc hs i (List.mem_eraseDups.1 hi))
theorem zB {l:List Oper} {x:List Bool} (hc:Closed l x) (d i n:Nat) (hB:(ancN l d [n]).contains i = true) (hx:x.length = l.length) (hn:n < l.length) (hi:x[i]? = some false):x[n]? = some false:=by
 rcases bK hx hn with h | h
 ·exact h
 ·have:=ancN_true hc d [n] (by simpa using h) i (by simpa using hB)
  rw [hi] at this; cases this
structure RY (C:World→Nat→Value→Prop) (n:Nat) (ya:(Nat→Value)→World→Prop) (base:World) (x:List Bool) (f:Nat→Value) (W:World):Prop where
 b:x[n]? = some false→Below base.heap.size base W
 c:x[n]? = some false→∀ j,x[j]? = some true→C W j (f j)
 m:x[n]? = some true→ya f W
def RYA (xh:(Nat→Value)→Act) (C:World→Nat→Value→Prop) (n:Nat) (ya:(Nat→Value)→World→Prop) (base:World) (x:List Bool) (hR:Act) (W:World):Prop:=∃ f,hR = xh f∧RY C n ya base x f W
section
variable {C:World→Nat→Value→Prop} {n:Nat} {ya:(Nat→Value)→World→Prop} {base W W':World} {x:List Bool} {f:Nat→Value}
theorem ry_start {k:Nat} {f:Nat→Value} (hk:n < k):RY C n ya base (List.replicate k false) f { base with drawn:=base.drawn + 1 } :=
 ⟨fun _=>⟨rfl,rfl,rfl,Nat.le_refl _,fun _ _=>rfl⟩,fun _ j L=>by rw [yF] at L; split at L <;> simp at L,fun h=>by rw [yF] at h; split at h <;> simp at h⟩
theorem az (h:RY C n ya base x f W) (i:Nat) (v:Value) (hn:x[n]? = some false) (uT:i ≠ n) (hv:C W i v):RY C n ya base (x.set i true) (upd f i v) W:=by
 refine ⟨fun _=>h.b hn,fun _ j L=>?_,fun e=>by rw [gqY uT,hn] at e; cases e⟩
 by_cases hji:j = i
 ·subst hji; rw [zp]; exact hv
 ·rw [zr _ _ hji]; rw [gqY (fun e=>hji e.symm)] at L; exact h.c hn j L
theorem ry_grow (hm:∀ W W' j v,yl W W'→C W j v→C W' j v) (h:RY C n ya base x f W) (hn:x[n]? = some false) (hb:yl W W'):RY C n ya base x f W' :=
 ⟨fun _=>(h.b hn).trans (hb.mono (h.b hn).size),fun _ j L=>hm _ _ _ _ hb (h.c hn j L),fun e=>by rw [hn] at e; cases e⟩
theorem ry_write (h:RY C n ya base x f W) (hn:x[n]? = some false) (v:Value) (hq:ya (upd f n v) W'):RY C n ya base (x.set n true) (upd f n v) W' :=
 ⟨fun e=>(by rw [gqsY hn] at e; cases e),fun e=>(by rw [gqsY hn] at e; cases e),fun _=>hq⟩
theorem ry_writeN (h:RY C n ya base x f W) (hn:x[n]? = some false) (hq:ya f W'):RY C n ya base (x.set n true) f W' :=
 ⟨fun e=>(by rw [gqsY hn] at e; cases e),fun e=>(by rw [gqsY hn] at e; cases e),fun _=>hq⟩
theorem ry_after (h:RY C n ya base x f W) (i:Nat) (v:Value) (hn:x[n]? = some true) (uT:i ≠ n) (hq:ya f W→ya (upd f i v) W):RY C n ya base (x.set i true) (upd f i v) W :=
 ⟨fun e=>(by rw [gqY uT,hn] at e; cases e),fun e=>(by rw [gqY uT,hn] at e; cases e),fun _=>hq (h.m hn)⟩
end
def KB (R:Nat) (W W':World):Prop:=KeptBut R W.heap.size W W'
theorem kb_trans {R:Nat} {W W1 W2:World} (z:KB R W W1) (K:KB R W1 W2):KB R W W2 :=
 ⟨K.os.trans z.os,K.tape.trans z.tape,K.output.trans z.output,yK z.size K.size,fun k hk hm=>(K.block k (yG hk z.size) hm).trans (z.block k hk hm)⟩
theorem kb_below {R:Nat} {W W':World} (h:yl W W'):KB R W W':=⟨h.os,h.tape,h.output,h.size,fun k hk _=>h.block k hk⟩
theorem kb_setCells (R o:Nat) (vs:List Value) (W:World):KB R W (W.setCells R o vs) :=
 ⟨et _ _ _ _,ej _ _ _ _,eh _ _ _ _,by rw [cy]; exact Nat.le_refl _,fun k _ hm=>ei _ _ hm _ _ _⟩
theorem cw {R B e sz n:Nat} {v:Value} {xs:List Value} {W W':World} (h:W.ownsRow B e sz v n xs) (hb:KB R W W') (A:R < B):W'.ownsRow B e sz v n xs:=by
 refine ⟨h.1,?_⟩
 rcases h.2 with hn | ⟨g,F,xp,rfl,hg,kn,rest⟩
 ·exact .inl hn
 ·exact .inr ⟨g,F,xp,rfl,hg,(hb.block g (yV.1 kn).1 (by omega)).trans kn,rest⟩
theorem kb_cell {R:Nat} {W W':World} (hb:KB R W W') {p:Addr} {u:Value} (h:W.cell? p = some u) (hp:p.block ≠ R):W'.cell? p = some u :=
 (yN (a:=p) (hb.block p.block (yH W _ h) hp)).trans h
theorem kb_range {R:Nat} {W W':World} (hb:KB R W W') {b o:Nat} {cs:List Value} (h:W.rangeAt b o cs) (hp:b ≠ R):W'.rangeAt b o cs:=fun j u L=>kb_cell hb (h j u L) hp
structure RX (C:World→Nat→Value→Prop) (R m st:Nat) (Rv:(Nat→Value)→List Value) (base:World) (x:List Bool) (f:Nat→Value) (W:World):Prop where
 k:KB R base W
 lt:R < base.heap.size
 t:W.there R 0 m
 c:∀ j,x[j]? = some true→C W j (f j)
 r:x[st]? = some true→W.rangeAt R 0 (Rv f)
def RXA (xh:(Nat→Value)→Act) (C:World→Nat→Value→Prop) (R m st:Nat) (Rv:(Nat→Value)→List Value) (base:World) (x:List Bool) (hR:Act) (W:World):Prop:=∃ f,hR = xh f∧RX C R m st Rv base x f W
section
variable {C:World→Nat→Value→Prop} {R m st:Nat} {Rv:(Nat→Value)→List Value} {base W W':World} {x:List Bool} {f:Nat→Value}
theorem rx_start {k:Nat} {f:Nat→Value} (hl:R < base.heap.size) (ht:base.there R 0 m):RX C R m st Rv base (List.replicate k false) f { base with drawn:=base.drawn + 1 } :=
 ⟨⟨rfl,rfl,rfl,Nat.le_refl _,fun _ _ _=>rfl⟩,hl,ht,fun j L=>by rw [yF] at L; split at L <;> simp at L,fun h=>by rw [yF] at h; split at h <;> simp at h⟩
theorem zX (h:RX C R m st Rv base x f W) (i:Nat) (v:Value) (his:i ≠ st) (hr:x[st]? = some true→Rv (upd f i v) = Rv f) (hv:C W i v):RX C R m st Rv base (x.set i true) (upd f i v) W:=by
 refine ⟨h.k,h.lt,h.t,fun j L=>?_,fun e=>?_⟩
 ·by_cases hji:j = i
  ·subst hji; rw [zp]; exact hv
  ·rw [zr _ _ hji]; rw [gq (fun e=>hji e.symm)] at L; exact h.c j L
 ·rw [gq his] at e; rw [hr e]; exact h.r e
theorem rx_grow (hm:∀ W W' j v,KB R W W'→C W j v→C W' j v) (h:RX C R m st Rv base x f W) (hb:yl W W'):RX C R m st Rv base x f W' :=
 ⟨kb_trans h.k (kb_below hb),h.lt,zf h.t hb (yG h.lt h.k.size),fun j L=>hm _ _ _ _ (kb_below hb) (h.c j L),fun e=>zb (h.r e) hb (yG h.lt h.k.size)⟩
theorem rx_store (hm:∀ W W' j v,KB R W W'→C W j v→C W' j v) (h:RX C R m st Rv base x f W) (hx:x[st]? = some false) (hl:(Rv f).length = m) (hC:∀ W v,C W st v):RX C R m st Rv base (x.set st true) f (W.setCells R 0 (Rv f)):=by
 refine ⟨kb_trans h.k (kb_setCells _ _ _ _),h.lt,yY h.t _ _ _,fun j L=>?_,fun _=>yU W R 0 _ (fun j L=>h.t j (by omega))⟩
 by_cases hji:j = st
 ·subst hji; exact hC _ _
 ·rw [gq (fun e=>hji e.symm)] at L; exact hm _ _ _ _ (kb_setCells _ _ _ _) (h.c j L)
end
end Go.Proofs.YtbakanofkghmiaaGreat
