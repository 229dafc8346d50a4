/-
  The end of a day, by the engine: proved by walking the method.
-/
import Derived.Test.YtbakanofkghmiaaGreatWj21
set_option linter.unusedVariables false
set_option maxHeartbeats 6400000
set_option maxRecDepth 100000
namespace Go.Proofs.YtbakanofkghmiaaGreat
open Go.RowKit
def dyB (o:Od):Bool:=o.life == 1
def expE (o:Od):Ev:=⟨9,zCm,o.id,0,o.left,0,0⟩
theorem take_dy {l:List Od} {j:Nat} {o:Od} (h:l[j]? = some o) (hd:o.life = 1):(l.take (j + 1)).filter dyB = (l.take j).filter dyB ++ [o]:=by
 rw [List.take_add_one,h,List.filter_append]
 simp [dyB,hd]
theorem take_no {l:List Od} {j:Nat} {o:Od} (h:l[j]? = some o) (hd:o.life ≠ 1):(l.take (j + 1)).filter dyB = (l.take j).filter dyB:=by
 rw [List.take_add_one,h,List.filter_append]
 simp [dyB,hd]
theorem ev_more (xX:List Od) (ts:List Ev) (n:Int) {k:Nat} {o:Od} (h:xX[k]? = some o):ts ++ [⟨8,zCm,0,0,n,0,0⟩] ++ (xX.take (k + 1)).map expE = (ts ++ [⟨8,zCm,0,0,n,0,0⟩] ++ (xX.take k).map expE) ++ [expE o]:=by
 rw [List.take_add_one,h]; simp
theorem deleteDay_nil (w:World) :
  Calls Tryz.prog 119 #[.slice none 0 0,.func (.func 118) #[] #[]] w fun e w'=>e = ym (.slice none 0 0)∧yn w w':=by
 go_enter Tryz.func119,Tryz.ntmps119
 go_wp2_with fail
 refine (indexDay_any (.slice none 0 0) [] w ⟨none,0,rfl,by simp,fun h=>absurd rfl h⟩).mono ?_
 rintro e w2 ⟨rfl,xY⟩
 have hf:fdy [] = -1:=rfl
 rw [hf]
 have HB:=Y xY
 clear xY
 go_wp2_with fail
 go_ret
 exact ⟨rfl,U HB⟩
theorem deleteDay_row (B:Nat) (v:Value) (l:List Od) (w:World) (hn:l.length ≤ 1000) (Z:ORow w B v l) :
  Calls Tryz.prog 119 #[v,.func (.func 118) #[] #[]] w fun e w'=>∃ v',e = ym v'∧ORow w' B v' (l.filter ndy)∧w.grownBy w' v.ownBlock∧v'.oneCell' = true:=by
 rcases Z.2 with ⟨rfl,h0⟩ | ⟨g,A,xr,rfl,_⟩
 ·obtain rfl:=List.length_eq_zero_iff.1 h0
  refine (deleteDay_nil w).mono ?_
  rintro e w2 ⟨rfl,xY⟩
  exact ⟨_,rfl,World.ownsRow_nil _ _ _ _,ba xY qt,rfl⟩
 ·refine (deleteDay_any g A B l w hn Z).mono ?_
  rintro e w2 ⟨rfl,ho2,qc⟩
  exact ⟨_,rfl,ho2,qc,rfl⟩
theorem endDayE_any {mb B Bo:Nat} {gv:Value} {gs:List Value} {gl:List (List Ev)} {next:Int} {vq:Value} {l:List Od} {t:Tot} {vo:Value} {ts:List Ev} (w:World) (h:EnS mb B Bo w gv gs gl next vq l t vo ts) (hl:l.length ≤ 100) (hn:ts.length ≤ 100) :
  Calls Tryz.prog 70 #[I mb 0] w fun r w'=>r = ym (.tuple #[])∧(∃ vw qz,EnS mb B Bo w' gv gs gl next vw (l.filter ndy) t qz (ts ++ [⟨8,zCm,0,0,((l.filter dyB).length:Nat),0,0⟩] ++ (l.filter dyB).map expE))∧KeptBut mb B w w':=by
 obtain ⟨i0,uH,uF,uJ,uQ⟩:=info_parts Tryz.infoOrder
 have HE:=Y h
 have qG:=h.lt
 have pM:B ≤ w.heap.size:=yN h.bo h.le
 obtain ⟨a,A,hvq,xE,hc⟩:=zN h.orow (by omega)
 have xq:∀ (k:Nat) (c:Od),l[k]? = some c→∃ b off,a = some (J b off)∧b < w.heap.size∧w.rangeAt b (off + k * 6) c.vs:=by
  intro k c hk
  obtain ⟨b,off,G,E,h3⟩:=hc (by intro h; rw [h] at hk; simp at hk)
  exact ⟨b,off,G,E,h3 k c hk⟩
 have HC:=Y xq
 have z2:w.cell? (J mb 2) = some (.slice a l.length A):=by rw [← hvq]; exact h.cells 2 _ rfl
 have HVQ:=Y hvq
 clear xq hc xE h hvq
 go_enter Tryz.func70,Tryz.ntmps70
 refine eH fun hj xu=>?_
 go_wp2_with fail
 refine U xu _ _ ?_
 clear xu
 refine eH fun hj xu=>?_
 go_wp2_with fail
 clear z2
 go_loopw [2,14] (fun gov iv wr=>∃ (k:Nat),k ≤ l.length∧iv = H k∧Hid (ORow wr w.heap.size gov ((l.take k).filter dyB)∧yn w wr)) (fun _ iv _=>l.length - (intOf iv).toNat)
 case atStart=>exact ⟨0,Nat.zero_le _,rfl,⟨World.ownsRow_nil _ _ _ _,Below.refl _ _⟩⟩
 case round =>
  obtain ⟨k,hk,rfl,ub⟩:=hrel
  by_cases xJ:k < l.length
  ·obtain ⟨c,uV⟩:∃ c,l[k]? = some c:=⟨_,yH xJ⟩
   obtain ⟨b,off,rfl,F,xo⟩:=U HC k c uV
   obtain ⟨g0,g1,g2,g3,g4,g5⟩:=zz (zb xo (U ub).2 F)
   have un:(k:Int) < l.length:=by omega
   have jO:=Y uV
   have hszr:=(U ub).2.size
   have ux:Hid (yn wr (wr.alloc (eF (yv c.id c.side c.ticks c.left c.life c.tag).toArray 49))):=eD _ _
   have HBR:Hid (World.rangeAt (wr.alloc (eF (yv c.id c.side c.ticks c.left c.life c.tag).toArray 49)) wr.heap.size 0 c.vs):=zi wr c.vs _
   have hsx:wr.heap.size < (wr.alloc (eF (yv c.id c.side c.ticks c.left c.life c.tag).toArray 49)).heap.size:=by rw [zh]; omega
   have pP:World.cell? (wr.alloc (eF (yv c.id c.side c.ticks c.left c.life c.tag).toArray 49)) (yq wr 0) = some (H c.id):=U HBR 0 _ rfl
   clear uV xo F pP
   go_wp2_with fail
   generalize (wr.alloc (eF (yv c.id c.side c.ticks c.left c.life c.tag).toArray 49)) = yb at ux HBR hsx ⊢
   refine (er c yb).mono ?_
   rintro e w3 ⟨rfl,uC⟩
   have xV:=Y (D (U ux) uC)
   have pp:=zb (U HBR) uC hsx
   have jt:wr.heap.size < w3.heap.size:=yJ hsx uC.size
   clear uC g0 g1 g2 g3 g4 g5
   have qQ:=Y (zm (U ub).1 (U xV))
   have HW3:=Y ((U ub).2.trans ((U xV).mono hszr))
   by_cases hd:c.life = 1
   ·have po:(c.life == 1) = true:=by simpa using hd
    have HN:=Y (take_dy (U jO) hd)
    have hlg:((l.take k).filter dyB).length ≤ 100:=yN (List.length_filter_le _ _) (yN (List.length_take_le _ _) (by omega))
    obtain ⟨x0,x1,x2,x3,x4,x5⟩:=yC pp
    have og:=Y ((U qQ).alloc (eF (yv c.id c.side c.ticks c.left c.life c.tag).toArray 49))
    have HW4:=Y ((U HW3).alloc (U HW3).size (eF (yv c.id c.side c.ticks c.left c.life c.tag).toArray 49))
    generalize oT:(l.take k).filter dyB = xX at qQ og HN hlg
    clear hd pp oT ub
    go_wp2_with (at_builtin; go_must (refine wpList_append_own _ rfl _ _ 26 rfl w.heap.size 49 i0 _ 6 56 Tryz.underlying26 uH uF uJ uQ rfl (by decide) u2 xX.length (xX.flatMap Od.vs) rfl (U og) (yq w3 0) 1 1 c.vs rfl rfl (cE w3 c.vs 49) (one_od c) (by unfold maxLen; omega) (by omega) (U HW4).size ?_); intro v5 w5 vy aE _; have kP:=Y vy; have jE:=Y aE; clear vy aE)
    have HN5:Hid (ORow w5 w.heap.size v5 ((l.take (k + 1)).filter dyB)∧yn w w5):=by
     refine ⟨?_,(U HW4).grown (U jE) (U HW4).size (fun q hq=>((U og).lt q hq).1)⟩
     rw [U HN]
     show w5.ownsRow _ _ _ _ (xX ++ [c]).length _
     rw [yP,List.flatMap_append]
     simpa using U kP
    clear kP jE
    go_wp2_with fail
    go_roundw
    case rel=>exact ⟨k + 1,by omega,by go_num,U HN5⟩
    case measure=>simp [intOf]; omega
   ·have po:(c.life == 1) = false:=by rw [xd]; exact hd
    have HN5:Hid (ORow w3 w.heap.size u2 ((l.take (k + 1)).filter dyB)∧yn w w3):=by
     rw [take_no (U jO) hd]
     exact ⟨U qQ,U HW3⟩
    clear hd pp
    go_wp2_with fail
    go_roundw
    case rel=>exact ⟨k + 1,by omega,by go_num,U HN5⟩
    case measure=>simp [intOf]; omega
  ·obtain rfl:k = l.length:=by omega
   rw [yZ qt] at ub
   have un:¬ (l.length:Int) < l.length:=by omega
   have hlg:(l.filter dyB).length ≤ 100:=yN (List.length_filter_le _ _) hl
   have HIN:=Y (U ub)
   generalize hgo:l.filter dyB = xX at HIN hlg
   have HGO:=Y hgo
   obtain ⟨ag,cg,hu2,hu3,hu4⟩:=zN (U HIN).1 (by omega)
   have HE0:=Y (zQ (U HE) (U HIN).2)
   subst hu2
   have HK0:Hid (KeptBut mb B w wr):=zC (U HIN).2 pM
   clear ub hgo hu3 hu4
   go_wp2_with fail
   refine U xu _ _ ?_
   clear xu
   refine eH fun hj xu=>?_
   go_wp2_with fail
   refine (cI ⟨8,zCm,0,0,(xX.length:Nat),0,0⟩ wr (U HE0) (by omega)).mono ?_
   rintro e w5 ⟨rfl,⟨vo5,qS⟩,hk5,ht5⟩
   have uK:Hid (ORow w5 w.heap.size (.slice ag xX.length cg) xX∧(∃ qz,EnS mb B Bo w5 gv gs gl next vq l t qz (ts ++ [⟨8,zCm,0,0,(xX.length:Nat),0,0⟩] ++ (xX.take 0).map expE))∧KeptBut mb B w w5):=⟨br (U HIN).1 ht5 (zl (U HIN).1 (U HE0).box (by decide)) (zD (U HIN).1 (U HE0).erow (by decide)),⟨vo5,by simpa using qS⟩,zk (U HK0) hk5⟩
   clear qS hk5 ht5 HIN HE0 HK0
   go_wp2_with fail
   refine U xu _ _ ?_
   clear xu
   refine eH fun hj xu=>?_
   go_wp2_with fail
   go_loopw [32] (fun iv wr2=>∃ (k:Nat),k ≤ xX.length∧iv = H k∧Hid (ORow wr2 w.heap.size (.slice ag xX.length cg) xX∧(∃ qz,EnS mb B Bo wr2 gv gs gl next vq l t qz (ts ++ [⟨8,zCm,0,0,(xX.length:Nat),0,0⟩] ++ (xX.take k).map expE))∧KeptBut mb B w wr2)) (fun iv _=>xX.length - (intOf iv).toNat)
   case atStart=>exact ⟨0,Nat.zero_le _,rfl,U uK⟩
   case round =>
    obtain ⟨k,hk2,rfl,hin2⟩:=hrel
    obtain ⟨oq,⟨vo6,kj⟩,kH⟩:=U hin2
    by_cases kY:k < xX.length
    ·obtain ⟨o,hko⟩:∃ o,xX[k]? = some o:=⟨_,yH kY⟩
     obtain ⟨a',c',e1,_,xo⟩:=zN oq (by omega)
     obtain ⟨b,off,e2,F,xo⟩:=xo (by rintro rfl; simp at hko)
     simp only [Value.slice.injEq] at e1
     obtain ⟨e1,-,-⟩:=e1
     rw [e2] at e1
     subst e1
     obtain ⟨g0,g1,g2,g3,g4,g5⟩:=zz (xo k o hko)
     have hlt2':(k:Int) < xX.length:=by omega
     have hk0:(0:Int) ≤ k:=by omega
     have vr:=eD wr (eF (yv o.id o.side o.ticks o.left o.life o.tag).toArray 49)
     have HEY:=Y (zQ kj vr)
     have HOY:=Y (zm oq vr)
     have HKY:=Y (zk kH (zC vr (by have:=kj.bo; have:=kj.le; omega)))
     have qb:=Y (ev_more xX ts (xX.length:Nat) hko)
     have HLN:Hid ((ts ++ [(⟨8,zCm,0,0,(xX.length:Nat),0,0⟩:Ev)] ++ (xX.take k).map expE).length ≤ 1000):=by
      show _ ≤ _
      simp [List.length_take]; omega
     clear oq kj kH xo vr hko e2 F
     go_wp2_with fail
     generalize (wr.alloc (eF (yv o.id o.side o.ticks o.left o.life o.tag).toArray 49)) = yb at HEY HOY HKY ⊢
     refine (cI (expE o) yb (U HEY) (U HLN)).mono ?_
     rintro e w6 ⟨rfl,⟨vo7,hE7⟩,hk7,ht7⟩
     have HN:Hid (ORow w6 w.heap.size (.slice (some (J b off)) xX.length cg) xX∧(∃ qz,EnS mb B Bo w6 gv gs gl next vq l t qz (ts ++ [⟨8,zCm,0,0,(xX.length:Nat),0,0⟩] ++ (xX.take (k + 1)).map expE))∧KeptBut mb B w w6):=⟨br (U HOY) ht7 (zl (U HOY) (U HEY).box (by decide)) (zD (U HOY) (U HEY).erow (by decide)),⟨vo7,by rw [U qb]; exact hE7⟩,zk (U HKY) hk7⟩
     clear hE7 hk7 ht7
     go_wp2_with fail
     go_roundw
     case rel=>exact ⟨k + 1,by omega,by go_num,U HN⟩
     case measure=>simp [intOf]; omega
    ·obtain rfl:k = xX.length:=by omega
     rw [yZ qt] at kj
     have hlt2':¬ (xX.length:Int) < xX.length:=by omega
     have qg:=Y kj
     have az:=Y kH
     clear oq kj kH
     go_wp2_with fail
     refine U xu _ _ ?_
     clear xu
     have z2:wr.cell? (J mb 2) = some vq:=(U qg).cells 2 _ rfl
     go_wp2_with fail
     refine (deleteDay_row B vq l wr (by omega) (U qg).orow).mono ?_
     rintro e w7 ⟨vw,rfl,ho7,hg7,-⟩
     have qL:some mb ≠ vq.ownBlock:=zl (U qg).orow (U qg).box (by decide)
     have y2:w7.cell? (J mb 2) = some vq:=hg7.cell z2 qL
     have f2:w7.frozen? (J mb 2) = false:=(World.frozen?_of_block (a:=(J mb 2)) (hg7.block mb (U qg).lt qL)).trans (by have:=((U qg).there 2 (by omega)).2; rwa [Nat.zero_add] at this)
     obtain ⟨aq,cq,qe,-,-⟩:=zN ho7 (yN (List.length_filter_le _ _) (by omega))
     subst qe
     have hbx7:∃ xr,w7.heap[mb]? = some (.cells xr 71 (0,0)):=by obtain ⟨xr,hc⟩:=(U qg).box; exact ⟨xr,(hg7.block mb (U qg).lt qL).trans hc⟩
     have ht8:TookAt mb 1 vq.ownBlock wr (w7.setCell (J mb 2) (.slice aq (l.filter ndy).length cq)):=cy (bL hg7 (U qg).lt qL) (dj (o:=1) _ _)
     have HE8:=Y (ens_took (U qg) (yM _ _ _ y2) (zu ho7 (zl ho7 hbx7 (by decide)) 2 _) ht8)
     have HK8:=Y (zk (U az) (cT ht8 (yN (U qg).bo (U qg).le) (fun g' hg'=>((U qg).orow.lt g' hg').1)))
     clear ho7 hg7 ht8 hbx7 z2
     go_wp2_with fail
     go_end0
     rw [U HGO]
     exact ⟨rfl,⟨_,vo6,U HE8⟩,U HK8⟩
theorem rest_took (mb B:Nat) (next:Int) (vq:Value) (l:List Od) (t:Od) (vt:Value) (ts:List Ev) (w:World) (h:MatS mb B w next vq l t vt ts) (hn:l.length ≤ 1000) :
  Calls Tryz.prog 115 #[I mb 0] w fun e w'=>∃ vw,e = ym (.tuple #[])∧MatS mb B w' next vw (l ++ [t]) t vt ts∧TookAt mb 0 vq.ownBlock w w':=by
 have HM:=Y h
 have qG:=h.lt
 have pM:=h.le
 have qL:=h.nq
 have ux:=Y h.box
 have jS:=Y h.orow
 have hM:=Y h.cells
 have qa:Hid (w.cell? (J mb 1) = some vq):=U hM 1 _ rfl
 have qP:Hid (w.frozen? (J mb 1) = false):=by have:=(h.there 1 (by omega)).2; rwa [Nat.zero_add] at this
 clear h
 obtain ⟨i0,uH,uF,uJ,uQ⟩:=info_parts Tryz.infoOrder
 go_enter Tryz.func115,Tryz.ntmps115
 go_wp2_with fail
 refine zj (RT (fun V=>yn w V) (fun f=>{ tmps:=#[I mb 0,M,f 0,f 1,f 2,f 3,f 4,f 5,f 6,f 7,f 8,f 9,f 10,f 11,f 12,f 13,f 14],defers:=[] }) 11 15 (DR mb B w vq l t)) (by kernel_rfl) ?_ ?_ ?_
 ·exact ⟨fun _=>M,rfl,fun _=>⟨rfl,rfl,rfl,Nat.le_refl _,fun _ _=>rfl⟩,fun j K=>by rw [yI] at K; split at K <;> simp at K⟩
 ·rintro x xm V ⟨f,rfl,-,hD⟩ hx xP
  have xp:=zV xP hx (acyc _ (by kernel_rfl))
  have pf:x[11]? = some true:=xp 11 (by simp)
  have k15:x[15]? = some true:=xp 15 (by simp)
  obtain ⟨va,vc,-,-,-,vk⟩:=hD 11 pf
  obtain ⟨q1,q2,q3⟩:=vk k15
  have vv:Hid (_∧_∧_):=⟨q1,q2,q3⟩
  clear hD xp xP hx pf k15 vk q1 q2 q3
  dsimp only
  go_wp2_with fail
  go_end0
  exact ⟨_,rfl,matS_took (U HM) (U vv).2.2 (U vv).1 (U vv).2.1,(U vv).2.2⟩
 ·rintro x xm V i op ⟨f,rfl,jB,hD⟩ xo hx Z xy Q
  have ui:=Y jB
  have HD:=Y hD
  have xn:∀ b o u,w.cell? (J b o) = some u→¬ x[11]? = some true→V.cell? (J b o) = some u:=fun b o u hu hn11=>((U ui hn11).cell (p:=(J b o)) (yK w _ hu)).trans hu
  have ah:i < 11→0 < i→¬ x[11]? = some true:=fun xJ qu uX=>by
   have h5:=yf xo 11 rfl uX 5 rfl
   have vQ:=yf xo 11 rfl uX 10 rfl
   have h4:=yf xo 5 rfl h5 4 rfl
   have h9:=yf xo 10 rfl vQ 9 rfl
   have h3:=yf xo 4 rfl h4 3 rfl
   have h8:=yf xo 9 rfl h9 8 rfl
   have E:=yf xo 3 rfl h3 2 rfl
   have h7:=yf xo 8 rfl h8 7 rfl
   have G:=yf xo 2 rfl E 1 rfl
   have h6:=yf xo 7 rfl h7 6 rfl
   have uj:∀ j,0 < j→j < 11→x[j]? = some true:=fun j jj K=>by
    rcases (by omega:j = 1 ∨ j = 2 ∨ j = 3 ∨ j = 4 ∨ j = 5 ∨ j = 6 ∨ j = 7 ∨ j = 8 ∨ j = 9 ∨ j = 10) with rfl | rfl | rfl | rfl | rfl | rfl | rfl | rfl | rfl | rfl <;> assumption
   rw [uj i qu xJ] at xy; cases xy
  have n15':i < 15→¬ x[15]? = some true:=fun xJ vx=>by
   have jo:=yf xo 15 rfl vx 14 rfl
   have uX:=yf xo 15 rfl vx 11 rfl
   have jy:=yf xo 14 rfl jo 13 rfl
   have h5:=yf xo 11 rfl uX 5 rfl
   have vQ:=yf xo 11 rfl uX 10 rfl
   have qF:=yf xo 13 rfl jy 12 rfl
   have h4:=yf xo 5 rfl h5 4 rfl
   have h9:=yf xo 10 rfl vQ 9 rfl
   have h0:=yf xo 12 rfl qF 0 rfl
   have h3:=yf xo 4 rfl h4 3 rfl
   have h8:=yf xo 9 rfl h9 8 rfl
   have E:=yf xo 3 rfl h3 2 rfl
   have h7:=yf xo 8 rfl h8 7 rfl
   have G:=yf xo 2 rfl E 1 rfl
   have h6:=yf xo 7 rfl h7 6 rfl
   have uj:∀ j,j < 15→x[j]? = some true:=fun j K=>by
    rcases (by omega:j = 0 ∨ j = 1 ∨ j = 2 ∨ j = 3 ∨ j = 4 ∨ j = 5 ∨ j = 6 ∨ j = 7 ∨ j = 8 ∨ j = 9 ∨ j = 10 ∨ j = 11 ∨ j = 12 ∨ j = 13 ∨ j = 14) with rfl | rfl | rfl | rfl | rfl | rfl | rfl | rfl | rfl | rfl | rfl | rfl | rfl | rfl | rfl <;> assumption
   rw [uj i xJ] at xy; cases xy
  clear xo jB
  match i,Z with
  | 0,Z | 1,Z | 6,Z =>
   obtain rfl:=ya Z
   clear Q hD
   rw [if_pos (by rfl)];unfold Oper.wp;go_simp
   exact ⟨upd f _ (I mb 0),by simp [upd],zw (U HD) (by decide) (by decide) (fun _ _ h=>h) (U ui) rfl⟩
  | 2,Z =>
   obtain rfl:=ya Z
   have g:f 1 = I mb 0:=hD 1 (ye Q 1 rfl)
   clear Q hD
   rw [if_pos (by rfl)];unfold Oper.wp;go_simp
   exact ⟨upd f 2 (I mb 0),by simp [upd,g],zw (U HD) (by decide) (by decide) (fun _ _ h=>h) (U ui) rfl⟩
  | 3,Z =>
   obtain rfl:=ya Z
   have g:f 2 = I mb 0:=hD 2 (ye Q 2 rfl)
   clear Q hD
   rw [if_pos (by rfl)];unfold Oper.wp;go_simp
   exact ⟨upd f 3 (I mb 0),by simp [upd,g],zw (U HD) (by decide) (by decide) (fun _ _ h=>h) (U ui) rfl⟩
  | 4,Z =>
   obtain rfl:=ya Z
   have g:f 3 = I mb 0:=hD 3 (ye Q 3 rfl)
   clear Q hD
   rw [if_pos (by rfl)];unfold Oper.wp;go_simp
   exact ⟨upd f 4 (I mb 1),by simp [upd,g],zw (U HD) (by decide) (by decide) (fun _ _ h=>h) (U ui) rfl⟩
  | 5,Z =>
   obtain rfl:=ya Z
   have g:f 4 = I mb 1:=hD 4 (ye Q 4 rfl)
   have qB:=ah (by omega) (by omega)
   have y1:=xn mb 1 _ (U qa) qB
   clear Q hD
   rw [if_pos (by rfl)];unfold Oper.wp;go_simp
   exact ⟨upd f 5 (vq),by simp [upd,g],zw (U HD) (by decide) (by decide) (fun _ _ h=>h) (U ui) rfl⟩
  | 7,Z =>
   obtain rfl:=ya Z
   have g:f 6 = I mb 0:=hD 6 (ye Q 6 rfl)
   clear Q hD
   rw [if_pos (by rfl)];unfold Oper.wp;go_simp
   exact ⟨upd f 7 (I mb 0),by simp [upd,g],zw (U HD) (by decide) (by decide) (fun _ _ h=>h) (U ui) rfl⟩
  | 8,Z =>
   obtain rfl:=ya Z
   have g:f 7 = I mb 0:=hD 7 (ye Q 7 rfl)
   clear Q hD
   rw [if_pos (by rfl)];unfold Oper.wp;go_simp
   exact ⟨upd f 8 (I mb 2),by simp [upd,g],zw (U HD) (by decide) (by decide) (fun _ _ h=>h) (U ui) rfl⟩
  | 9,Z =>
   obtain rfl:=ya Z
   have g:f 8 = I mb 2:=hD 8 (ye Q 8 rfl)
   have qB:=ah (by omega) (by omega)
   have y2:=xn mb 2 _ (U hM 2 _ rfl) qB
   have y3:=xn mb 3 _ (U hM 3 _ rfl) qB
   have y4:=xn mb 4 _ (U hM 4 _ rfl) qB
   have y5:=xn mb 5 _ (U hM 5 _ rfl) qB
   have y6:=xn mb 6 _ (U hM 6 _ rfl) qB
   have y7:=xn mb 7 _ (U hM 7 _ rfl) qB
   clear Q hD
   rw [if_pos (by rfl)];unfold Oper.wp;go_simp
   exact ⟨upd f 9 (.agg (yv t.id t.side t.ticks t.left t.life t.tag).toArray),by simp [upd,g],zw (U HD) (by decide) (by decide) (fun _ _ h=>h) (U ui) rfl⟩
  | 10,Z =>
   obtain rfl:=ya Z
   have g:f 9 = .agg (yv t.id t.side t.ticks t.left t.life t.tag).toArray:=hD 9 (ye Q 9 rfl)
   have qB:=ah (by omega) (by omega)
   have xT:=U ui qB
   clear Q hD
   rw [if_pos (by rfl)];unfold Oper.wp;go_simp
   refine ⟨upd f 10 (.slice (some (yq V 0)) 1 1),by simp [upd,g],zw (U HD) (by decide) (by decide) (dr_alloc qB) (fun _=>xT.alloc xT.size _) ⟨V.heap.size,rfl,fun _=>?_⟩⟩
   exact fun j u h=>cE V t.vs 49 j u h
  | 11,Z =>
   obtain rfl:=ya Z
   have g5:f 5 = vq:=hD 5 (ye Q 5 rfl)
   obtain ⟨s,qR,ol⟩:=hD 10 (ye Q 10 rfl)
   have qB:¬ x[11]? = some true:=by rw [xy]; simp
   have n15:=n15' (by omega)
   have xT:=U ui qB
   have uU:ORow V B vq l:=zm (U jS) xT
   rw [if_pos (by rfl)]
   refine wp_append_own V (.tmp 7) (.tmp 12) 26 rfl B 49 i0 _ 6 56 Tryz.underlying26 uH uF uJ uQ rfl (by decide) vq l.length (l.flatMap Od.vs) g5 uU (J s 0) 1 1 t.vs qR rfl (ol qB) (one_od t) (by unfold maxLen; omega) (by omega) (by have:=xT.size; omega) ?_
   intro v' w' xN uk _
   obtain ⟨ga,gc,rfl⟩:=dQ xN (by omega)
   refine ⟨upd f 11 (.slice (some (J ga 0)) (l.length + 1) gc),rfl,rt_one (by decide) (U HD) xy n15 (fun j v K h=>dr_one j v K h) ⟨some (J ga 0),gc,rfl,trivial,fun _=>⟨?_,?_⟩,fun h=>h.elim⟩⟩
   ·show World.ownsRow _ _ _ _ _ (l ++ [t]).length _
    rw [yP,List.flatMap_append]; simpa using xN
   ·exact (ba xT qt).trans uk
  | 12,Z =>
   obtain rfl:=ya Z
   have g:f 0 = I mb 0:=hD 0 (ye Q 0 rfl)
   clear Q hD
   rw [if_pos (by rfl)];unfold Oper.wp;go_simp
   exact ⟨upd f 12 (I mb 0),by simp [upd,g],zw (U HD) (by decide) (by decide) (fun _ _ h=>h) (U ui) rfl⟩
  | 13,Z =>
   obtain rfl:=ya Z
   have g:f 12 = I mb 0:=hD 12 (ye Q 12 rfl)
   clear Q hD
   rw [if_pos (by rfl)];unfold Oper.wp;go_simp
   exact ⟨upd f 13 (I mb 0),by simp [upd,g],zw (U HD) (by decide) (by decide) (fun _ _ h=>h) (U ui) rfl⟩
  | 14,Z =>
   obtain rfl:=ya Z
   have g:f 13 = I mb 0:=hD 13 (ye Q 13 rfl)
   clear Q hD
   rw [if_pos (by rfl)];unfold Oper.wp;go_simp
   exact ⟨upd f 14 (I mb 1),by simp [upd,g],zw (U HD) (by decide) (by decide) (fun _ _ h=>h) (U ui) rfl⟩
  | 15,Z =>
   obtain rfl:=ya Z
   have kw:f 14 = I mb 1:=hD 14 (ye Q 14 rfl)
   have pf:x[11]? = some true:=Q ⟨11,.data⟩ (by simp) rfl
   have n15:¬ x[15]? = some true:=by rw [xy]; simp
   obtain ⟨ga,gc,vF,-,hfa,-⟩:=hD 11 pf
   obtain ⟨jV,uk⟩:=hfa n15
   have qW:some mb ≠ vq.ownBlock:=qL
   have y1:=uk.cell (U qa) qW
   have f1:V.frozen? (J mb 1) = false:=(World.frozen?_of_block (a:=(J mb 1)) (uk.block mb (by omega) qW)).trans (U qP)
   have jM:=Y (vF ▸ jV)
   have pA:Hid (∃ xr,V.heap[mb]? = some (.cells xr 157 (0,0))):=by obtain ⟨xr,hc⟩:=U ux; exact ⟨xr,(uk.block mb (by omega) qW).trans hc⟩
   have ph:=Y uk
   clear Q hD jV uk hfa
   rw [if_pos (by rfl)];unfold Oper.wp;go_simp
   refine ⟨upd f 15 M,by simp [upd,kw,vF],rt_two (by decide) (U HD) pf xy (fun j K hxj h=>dr_two j K h (fun hj11=>?_)) trivial⟩
   subst hj11
   obtain ⟨-,-,-,-,-,-⟩:=h
   refine ⟨ga,gc,vF,trivial,fun h=>absurd trivial h,fun _=>?_⟩
   rw [vF]
   refine ⟨yM _ _ _ y1,zu (U jM) (zl (U jM) (U pA) (by decide)) 1 _,?_⟩
   exact cy (bL (U ph) (by omega) qW) (dj (o:=0) _ _)
  | i + 16,Z=>simp at Z
theorem gqY {x:List Bool} {i j:Nat} (h:i ≠ j):(x.set i true)[j]? = x[j]?:=yW h
theorem gqsY {x:List Bool} {i:Nat} (h:x[i]? = some false):(x.set i true)[i]? = some true:=List.getElem?_set_self (yG.1 h).1
def ancS (l:List Oper) (s:List Nat):List Nat:=s ++ s.flatMap fun i=>match l[i]? with
 | some o=>(o.after.toList.filter fun e=>Region.binds .any e).map fun e=>e.on
 | none=>[]
def ancN (l:List Oper):Nat→List Nat→List Nat
 | 0,s=>s
 | n + 1,s=>ancN l n (ancS l s).eraseDups
theorem ancS_true {l:List Oper} {x:List Bool} (hc:Closed l x) {s:List Nat} (hs:∀ i ∈ s,x[i]? = some true):∀ i ∈ ancS l s,x[i]? = some true:=by
 intro i hi
 rcases List.mem_append.1 hi with h | h
 ·exact hs i h
 ·obtain ⟨k,hk,hm⟩:=List.mem_flatMap.1 h
  split at hm
  ·next o Z =>
   obtain ⟨e,he,rfl⟩:=List.mem_map.1 hm
   obtain ⟨he1,he2⟩:=List.mem_filter.1 he
   exact hc k o Z (hs k hk) e (by simpa using he1) he2
  ·simp at hm
theorem ancN_true {l:List Oper} {x:List Bool} (hc:Closed l x):∀ (n:Nat) (s:List Nat),(∀ i ∈ s,x[i]? = some true)→∀ i ∈ ancN l n s,x[i]? = some true
 | 0,s,hs=>hs
 | n + 1,s,hs=>ancN_true hc n _ (fun i hi=>ancS_true hc hs i (List.mem_eraseDups.1 hi))
theorem zy {l:List Oper} {x:List Bool} (hc:Closed l x) (d i n:Nat) (hB:(ancN l d [n]).contains i = true) (hx:x.length = l.length) (hn:n < l.length) (hi:x[i]? = some false):x[n]? = some false:=by
 rcases bU hx hn with h | h
 ·exact h
 ·have:=ancN_true hc d [n] (by simpa using h) i (by simpa using hB)
  rw [hi] at this; cases this
structure RY (C:World→Nat→Value→Prop) (n:Nat) (xj:(Nat→Value)→World→Prop) (base:World) (x:List Bool) (f:Nat→Value) (W:World):Prop where
 b:x[n]? = some false→Below base.heap.size base W
 c:x[n]? = some false→∀ j,x[j]? = some true→C W j (f j)
 m:x[n]? = some true→xj f W
def RYA (hb:(Nat→Value)→Act) (C:World→Nat→Value→Prop) (n:Nat) (xj:(Nat→Value)→World→Prop) (base:World) (x:List Bool) (xm:Act) (W:World):Prop:=∃ f,xm = hb f∧RY C n xj base x f W
section
variable {C:World→Nat→Value→Prop} {n:Nat} {xj:(Nat→Value)→World→Prop} {base W W':World} {x:List Bool} {f:Nat→Value}
theorem ry_start {k:Nat} {f:Nat→Value} (hk:n < k):RY C n xj base (List.replicate k false) f { base with drawn:=base.drawn + 1 } :=
 ⟨fun _=>⟨rfl,rfl,rfl,Nat.le_refl _,fun _ _=>rfl⟩,fun _ j K=>by rw [yI] at K; split at K <;> simp at K,fun h=>by rw [yI] at h; split at h <;> simp at h⟩
theorem zX (h:RY C n xj base x f W) (i:Nat) (v:Value) (hn:x[n]? = some false) (ub:i ≠ n) (hv:C W i v):RY C n xj base (x.set i true) (upd f i v) W:=by
 refine ⟨fun _=>h.b hn,fun _ j K=>?_,fun e=>by rw [gqY ub,hn] at e; cases e⟩
 by_cases hji:j = i
 ·subst hji; rw [zp]; exact hv
 ·rw [zq _ _ hji]; rw [gqY (fun e=>hji e.symm)] at K; exact h.c hn j K
theorem ry_grow (hm:∀ W W' j v,yn W W'→C W j v→C W' j v) (h:RY C n xj base x f W) (hn:x[n]? = some false) (F:yn W W'):RY C n xj base x f W' :=
 ⟨fun _=>(h.b hn).trans (F.mono (h.b hn).size),fun _ j K=>hm _ _ _ _ F (h.c hn j K),fun e=>by rw [hn] at e; cases e⟩
theorem ry_write (h:RY C n xj base x f W) (hn:x[n]? = some false) (v:Value) (hq:xj (upd f n v) W'):RY C n xj base (x.set n true) (upd f n v) W' :=
 ⟨fun e=>(by rw [gqsY hn] at e; cases e),fun e=>(by rw [gqsY hn] at e; cases e),fun _=>hq⟩
theorem ry_writeN (h:RY C n xj base x f W) (hn:x[n]? = some false) (hq:xj f W'):RY C n xj base (x.set n true) f W' :=
 ⟨fun e=>(by rw [gqsY hn] at e; cases e),fun e=>(by rw [gqsY hn] at e; cases e),fun _=>hq⟩
theorem ry_after (h:RY C n xj base x f W) (i:Nat) (v:Value) (hn:x[n]? = some true) (ub:i ≠ n) (hq:xj f W→xj (upd f i v) W):RY C n xj base (x.set i true) (upd f i v) W :=
 ⟨fun e=>(by rw [gqY ub,hn] at e; cases e),fun e=>(by rw [gqY ub,hn] at e; cases e),fun _=>hq (h.m hn)⟩
end
def KB (R:Nat) (W W':World):Prop:=KeptBut R W.heap.size W W'
theorem kb_trans {R:Nat} {W W1 W2:World} (G:KB R W W1) (E:KB R W1 W2):KB R W W2 :=
 ⟨E.os.trans G.os,E.tape.trans G.tape,E.output.trans G.output,yN G.size E.size,fun k hk hm=>(E.block k (yJ hk G.size) hm).trans (G.block k hk hm)⟩
theorem kb_below {R:Nat} {W W':World} (h:yn W W'):KB R W W':=⟨h.os,h.tape,h.output,h.size,fun k hk _=>h.block k hk⟩
theorem kb_setCells (R o:Nat) (vs:List Value) (W:World):KB R W (W.setCells R o vs) :=
 ⟨eu _ _ _ _,ei _ _ _ _,eh _ _ _ _,by rw [cx]; exact Nat.le_refl _,fun k _ hm=>dp _ _ hm _ _ _⟩
theorem kb_row {R B e sz n:Nat} {v:Value} {xs:List Value} {W W':World} (h:W.ownsRow B e sz v n xs) (F:KB R W W') (X:R < B):W'.ownsRow B e sz v n xs:=by
 refine ⟨h.1,?_⟩
 rcases h.2 with hn | ⟨g,A,xr,rfl,hg,kG,rest⟩
 ·exact .inl hn
 ·exact .inr ⟨g,A,xr,rfl,hg,(F.block g (yY.1 kG).1 (by omega)).trans kG,rest⟩
theorem kb_cell {R:Nat} {W W':World} (F:KB R W W') {p:Addr} {u:Value} (h:W.cell? p = some u) (hp:p.block ≠ R):W'.cell? p = some u :=
 (yQ (a:=p) (F.block p.block (yK W _ h) hp)).trans h
theorem kb_range {R:Nat} {W W':World} (F:KB R W W') {b o:Nat} {cs:List Value} (h:W.rangeAt b o cs) (hp:b ≠ R):W'.rangeAt b o cs:=fun j u K=>kb_cell F (h j u K) hp
structure RX (C:World→Nat→Value→Prop) (R m st:Nat) (Rv:(Nat→Value)→List Value) (base:World) (x:List Bool) (f:Nat→Value) (W:World):Prop where
 k:KB R base W
 lt:R < base.heap.size
 t:W.there R 0 m
 c:∀ j,x[j]? = some true→C W j (f j)
 r:x[st]? = some true→W.rangeAt R 0 (Rv f)
def RXA (hb:(Nat→Value)→Act) (C:World→Nat→Value→Prop) (R m st:Nat) (Rv:(Nat→Value)→List Value) (base:World) (x:List Bool) (xm:Act) (W:World):Prop:=∃ f,xm = hb f∧RX C R m st Rv base x f W
section
variable {C:World→Nat→Value→Prop} {R m st:Nat} {Rv:(Nat→Value)→List Value} {base W W':World} {x:List Bool} {f:Nat→Value}
theorem rx_start {k:Nat} {f:Nat→Value} (hl:R < base.heap.size) (ht:base.there R 0 m):RX C R m st Rv base (List.replicate k false) f { base with drawn:=base.drawn + 1 } :=
 ⟨⟨rfl,rfl,rfl,Nat.le_refl _,fun _ _ _=>rfl⟩,hl,ht,fun j K=>by rw [yI] at K; split at K <;> simp at K,fun h=>by rw [yI] at h; split at h <;> simp at h⟩
theorem aR (h:RX C R m st Rv base x f W) (i:Nat) (v:Value) (his:i ≠ st) (hr:x[st]? = some true→Rv (upd f i v) = Rv f) (hv:C W i v):RX C R m st Rv base (x.set i true) (upd f i v) W:=by
 refine ⟨h.k,h.lt,h.t,fun j K=>?_,fun e=>?_⟩
 ·by_cases hji:j = i
  ·subst hji; rw [zp]; exact hv
  ·rw [zq _ _ hji]; rw [gq (fun e=>hji e.symm)] at K; exact h.c j K
 ·rw [gq his] at e; rw [hr e]; exact h.r e
theorem rx_grow (hm:∀ W W' j v,KB R W W'→C W j v→C W' j v) (h:RX C R m st Rv base x f W) (F:yn W W'):RX C R m st Rv base x f W' :=
 ⟨kb_trans h.k (kb_below F),h.lt,zg h.t F (yJ h.lt h.k.size),fun j K=>hm _ _ _ _ (kb_below F) (h.c j K),fun e=>zb (h.r e) F (yJ h.lt h.k.size)⟩
theorem rx_store (hm:∀ W W' j v,KB R W W'→C W j v→C W' j v) (h:RX C R m st Rv base x f W) (hx:x[st]? = some false) (hl:(Rv f).length = m) (hC:∀ W v,C W st v):RX C R m st Rv base (x.set st true) f (W.setCells R 0 (Rv f)):=by
 refine ⟨kb_trans h.k (kb_setCells _ _ _ _),h.lt,xb h.t _ _ _,fun j K=>?_,fun _=>yX W R 0 _ (fun j K=>h.t j (by omega))⟩
 by_cases hji:j = st
 ·subst hji; exact hC _ _
 ·rw [gq (fun e=>hji e.symm)] at K; exact hm _ _ _ _ (kb_setCells _ _ _ _) (h.c j K)
end
end Go.Proofs.YtbakanofkghmiaaGreat
