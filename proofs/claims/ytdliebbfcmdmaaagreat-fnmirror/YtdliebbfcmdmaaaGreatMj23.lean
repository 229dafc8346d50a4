/-
  The end of a day, by the engine: proved by walking the method.
-/
import Derived.Test.YtdliebbfcmdmaaaGreatMj22
set_option linter.unusedVariables false
set_option maxHeartbeats 6400000
set_option maxRecDepth 100000
namespace Go.Proofs.YtdliebbfcmdmaaaGreat
open Go.RowKit
def dyB (o:Od):Bool:=o.life == 1
def expE (o:Od):Ev:=⟨9,zCm,o.id,0,o.left,0,0⟩
theorem take_dy {l:List Od} {j:Nat} {o:Od} (h:l[j]? = some o) (hd:o.life = 1):(l.take (j + 1)).filter dyB = (l.take j).filter dyB ++ [o]:=by
 rw [List.take_add_one,h,List.filter_append]
 simp [dyB,hd]
theorem take_no {l:List Od} {j:Nat} {o:Od} (h:l[j]? = some o) (hd:o.life ≠ 1):(l.take (j + 1)).filter dyB = (l.take j).filter dyB:=by
 rw [List.take_add_one,h,List.filter_append]
 simp [dyB,hd]
theorem ev_more (xY:List Od) (ts:List Ev) (n:Int) {k:Nat} {o:Od} (h:xY[k]? = some o):ts ++ [⟨8,zCm,0,0,n,0,0⟩] ++ (xY.take (k + 1)).map expE = (ts ++ [⟨8,zCm,0,0,n,0,0⟩] ++ (xY.take k).map expE) ++ [expE o]:=by
 rw [List.take_add_one,h]; simp
theorem deleteDay_nil (w:World) :
  Calls Tryz.prog 61 #[.slice none 0 0,.func (.func 60) #[] #[]] w fun e w'=>e = ym (.slice none 0 0)∧yn w w':=by
 go_enter Tryz.func61,Tryz.ntmps61
 go_wp2_with fail
 refine (indexDay_any (.slice none 0 0) [] w ⟨none,0,rfl,by simp,fun h=>absurd rfl h⟩).mono ?_
 rintro e w2 ⟨rfl,xZ⟩
 have hf:fdy [] = -1:=rfl
 rw [hf]
 have HB:=Y xZ
 clear xZ
 go_wp2_with fail
 go_ret
 exact ⟨rfl,U HB⟩
theorem deleteDay_row (B:Nat) (v:Value) (l:List Od) (w:World) (hn:l.length ≤ 1000) (Z:ORow w B v l) :
  Calls Tryz.prog 61 #[v,.func (.func 60) #[] #[]] w fun e w'=>∃ v',e = ym v'∧ORow w' B v' (l.filter ndy)∧w.grownBy w' v.ownBlock∧v'.oneCell' = true:=by
 rcases Z.2 with ⟨rfl,h0⟩ | ⟨g,A,xr,rfl,_⟩
 ·obtain rfl:=List.length_eq_zero_iff.1 h0
  refine (deleteDay_nil w).mono ?_
  rintro e w2 ⟨rfl,xZ⟩
  exact ⟨_,rfl,World.ownsRow_nil _ _ _ _,zX xZ tg,rfl⟩
 ·refine (deleteDay_any g A B l w hn Z).mono ?_
  rintro e w2 ⟨rfl,ho2,vN⟩
  exact ⟨_,rfl,ho2,vN,rfl⟩
theorem endDayE_any {mb B Bo:Nat} {gv:Value} {gs:List Value} {gl:List (List Ev)} {next:Int} {vq:Value} {l:List Od} {t:Tot} {vo:Value} {ts:List Ev} (w:World) (h:EnS mb B Bo w gv gs gl next vq l t vo ts) (hl:l.length ≤ 100) (hn:ts.length ≤ 100) :
  Calls Tryz.prog 35 #[I mb 0] w fun r w'=>r = ym (.tuple #[])∧(∃ vw qp,EnS mb B Bo w' gv gs gl next vw (l.filter ndy) t qp (ts ++ [⟨8,zCm,0,0,((l.filter dyB).length:Nat),0,0⟩] ++ (l.filter dyB).map expE))∧KeptBut mb B w w':=by
 obtain ⟨i0,uE,uA,uC,uM⟩:=info_parts Tryz.infoOrder
 have HE:=Y h
 have qz:=h.lt
 have pA:B ≤ w.heap.size:=yN h.bo h.le
 obtain ⟨a,A,hvq,xD,hc⟩:=zK h.orow (by omega)
 have xq:∀ (k:Nat) (c:Od),l[k]? = some c→∃ b off,a = some (J b off)∧b < w.heap.size∧w.rangeAt b (off + k * 6) c.vs:=by
  intro k c hk
  obtain ⟨b,off,Q,N,h3⟩:=hc (by intro h; rw [h] at hk; simp at hk)
  exact ⟨b,off,Q,N,h3 k c hk⟩
 have HC:=Y xq
 have z2:w.cell? (J mb 2) = some (.slice a l.length A):=by rw [← hvq]; exact h.cells 2 _ rfl
 have HVQ:=Y hvq
 clear xq hc xD h hvq
 go_enter Tryz.func35,Tryz.ntmps35
 refine ei fun hR xu=>?_
 go_wp2_with fail
 refine U xu _ _ ?_
 clear xu
 refine ei fun hR xu=>?_
 go_wp2_with fail
 clear z2
 go_loopw [2,14] (fun gov iv wr=>∃ (k:Nat),k ≤ l.length∧iv = H k∧Hid (ORow wr w.heap.size gov ((l.take k).filter dyB)∧yn w wr)) (fun _ iv _=>l.length - (intOf iv).toNat)
 case atStart=>exact ⟨0,Nat.zero_le _,rfl,⟨World.ownsRow_nil _ _ _ _,Below.refl _ _⟩⟩
 case round =>
  obtain ⟨k,hk,rfl,uu⟩:=hrel
  by_cases xK:k < l.length
  ·obtain ⟨c,vd⟩:∃ c,l[k]? = some c:=⟨_,yH xK⟩
   obtain ⟨b,off,rfl,L,xo⟩:=U HC k c vd
   obtain ⟨g0,g1,g2,g3,g4,g5⟩:=zC (zb xo (U uu).2 L)
   have uv:(k:Int) < l.length:=by omega
   have jP:=Y vd
   have hszr:=(U uu).2.size
   have uB:Hid (yn wr (wr.alloc (E (yv c.id c.side c.ticks c.left c.life c.tag).toArray 66))):=ed _ _
   have HBR:Hid (World.rangeAt (wr.alloc (E (yv c.id c.side c.ticks c.left c.life c.tag).toArray 66)) wr.heap.size 0 c.vs):=zg wr c.vs _
   have hsx:wr.heap.size < (wr.alloc (E (yv c.id c.side c.ticks c.left c.life c.tag).toArray 66)).heap.size:=by rw [ze]; omega
   have pC:World.cell? (wr.alloc (E (yv c.id c.side c.ticks c.left c.life c.tag).toArray 66)) (yq wr 0) = some (H c.id):=U HBR 0 _ rfl
   clear vd xo L pC
   go_wp2_with fail
   generalize (wr.alloc (E (yv c.id c.side c.ticks c.left c.life c.tag).toArray 66)) = yb at uB HBR hsx ⊢
   refine (dT c yb).mono ?_
   rintro e w3 ⟨rfl,uH⟩
   have xT:=Y (eh (U uB) uH)
   have oY:=zb (U HBR) uH hsx
   have qG:wr.heap.size < w3.heap.size:=yJ hsx uH.size
   clear uH g0 g1 g2 g3 g4 g5
   have qL:=Y (zk (U uu).1 (U xT))
   have HW3:=Y ((U uu).2.trans ((U xT).mono hszr))
   by_cases hd:c.life = 1
   ·have hbd:(c.life == 1) = true:=by simpa using hd
    have HN:=Y (take_dy (U jP) hd)
    have hlg:((l.take k).filter dyB).length ≤ 100:=yN (List.length_filter_le _ _) (yN (List.length_take_le _ _) (by omega))
    obtain ⟨x0,x1,x2,x3,x4,x5⟩:=yC oY
    have oi:=Y ((U qL).alloc (E (yv c.id c.side c.ticks c.left c.life c.tag).toArray 66))
    have HW4:=Y ((U HW3).alloc (U HW3).size (E (yv c.id c.side c.ticks c.left c.life c.tag).toArray 66))
    generalize kX:(l.take k).filter dyB = xY at qL oi HN hlg
    clear hd oY kX uu
    go_wp2_with (at_builtin; go_must (refine wpList_append_own _ rfl _ _ 29 rfl w.heap.size 66 i0 _ 6 56 Tryz.underlying29 uE uA uC uM rfl (by decide) u2 xY.length (xY.flatMap Od.vs) rfl (U oi) (yq w3 0) 1 1 c.vs rfl rfl (bT w3 c.vs 66) (one_od c) (by unfold maxLen; omega) (by omega) (U HW4).size ?_); intro v5 w5 vz ak _; have kD:=Y vz; have qW:=Y ak; clear vz ak)
    have HN5:Hid (ORow w5 w.heap.size v5 ((l.take (k + 1)).filter dyB)∧yn w w5):=by
     refine ⟨?_,(U HW4).grown (U qW) (U HW4).size (fun q hq=>((U oi).lt q hq).1)⟩
     rw [U HN]
     show w5.ownsRow _ _ _ _ (xY ++ [c]).length _
     rw [yP,List.flatMap_append]
     simpa using U kD
    clear kD qW
    go_wp2_with fail
    go_roundw
    case rel=>exact ⟨k + 1,by omega,by go_num,U HN5⟩
    case measure=>simp [intOf]; omega
   ·have hbd:(c.life == 1) = false:=by rw [xd]; exact hd
    have HN5:Hid (ORow w3 w.heap.size u2 ((l.take (k + 1)).filter dyB)∧yn w w3):=by
     rw [take_no (U jP) hd]
     exact ⟨U qL,U HW3⟩
    clear hd oY
    go_wp2_with fail
    go_roundw
    case rel=>exact ⟨k + 1,by omega,by go_num,U HN5⟩
    case measure=>simp [intOf]; omega
  ·obtain rfl:k = l.length:=by omega
   rw [yZ tg] at uu
   have uv:¬ (l.length:Int) < l.length:=by omega
   have hlg:(l.filter dyB).length ≤ 100:=yN (List.length_filter_le _ _) hl
   have HIN:=Y (U uu)
   generalize hgo:l.filter dyB = xY at HIN hlg
   have HGO:=Y hgo
   obtain ⟨ag,cg,hu2,hu3,hu4⟩:=zK (U HIN).1 (by omega)
   have HE0:=Y (zN (U HE) (U HIN).2)
   subst hu2
   have HK0:Hid (KeptBut mb B w wr):=zz (U HIN).2 pA
   clear uu hgo hu3 hu4
   go_wp2_with fail
   refine U xu _ _ ?_
   clear xu
   refine ei fun hR xu=>?_
   go_wp2_with fail
   refine (bX ⟨8,zCm,0,0,(xY.length:Nat),0,0⟩ wr (U HE0) (by omega)).mono ?_
   rintro e w5 ⟨rfl,⟨vo5,qN⟩,hk5,ht5⟩
   have uI:Hid (ORow w5 w.heap.size (.slice ag xY.length cg) xY∧(∃ qp,EnS mb B Bo w5 gv gs gl next vq l t qp (ts ++ [⟨8,zCm,0,0,(xY.length:Nat),0,0⟩] ++ (xY.take 0).map expE))∧KeptBut mb B w w5):=⟨aV (U HIN).1 ht5 (zj (U HIN).1 (U HE0).box (by decide)) (zA (U HIN).1 (U HE0).erow (by decide)),⟨vo5,by simpa using qN⟩,zi (U HK0) hk5⟩
   clear qN hk5 ht5 HIN HE0 HK0
   go_wp2_with fail
   refine U xu _ _ ?_
   clear xu
   refine ei fun hR xu=>?_
   go_wp2_with fail
   go_loopw [32] (fun iv wr2=>∃ (k:Nat),k ≤ xY.length∧iv = H k∧Hid (ORow wr2 w.heap.size (.slice ag xY.length cg) xY∧(∃ qp,EnS mb B Bo wr2 gv gs gl next vq l t qp (ts ++ [⟨8,zCm,0,0,(xY.length:Nat),0,0⟩] ++ (xY.take k).map expE))∧KeptBut mb B w wr2)) (fun iv _=>xY.length - (intOf iv).toNat)
   case atStart=>exact ⟨0,Nat.zero_le _,rfl,U uI⟩
   case round =>
    obtain ⟨k,hk2,rfl,hin2⟩:=hrel
    obtain ⟨oQ,⟨vo6,kj⟩,kN⟩:=U hin2
    by_cases oP:k < xY.length
    ·obtain ⟨o,hko⟩:∃ o,xY[k]? = some o:=⟨_,yH oP⟩
     obtain ⟨a',c',e1,_,xo⟩:=zK oQ (by omega)
     obtain ⟨b,off,e2,L,xo⟩:=xo (by rintro rfl; simp at hko)
     simp only [Value.slice.injEq] at e1
     obtain ⟨e1,-,-⟩:=e1
     rw [e2] at e1
     subst e1
     obtain ⟨g0,g1,g2,g3,g4,g5⟩:=zC (xo k o hko)
     have hlt2':(k:Int) < xY.length:=by omega
     have hk0:(0:Int) ≤ k:=by omega
     have vr:=ed wr (E (yv o.id o.side o.ticks o.left o.life o.tag).toArray 66)
     have HEY:=Y (zN kj vr)
     have HOY:=Y (zk oQ vr)
     have HKY:=Y (zi kN (zz vr (by have:=kj.bo; have:=kj.le; omega)))
     have qf:=Y (ev_more xY ts (xY.length:Nat) hko)
     have HLN:Hid ((ts ++ [(⟨8,zCm,0,0,(xY.length:Nat),0,0⟩:Ev)] ++ (xY.take k).map expE).length ≤ 1000):=by
      show _ ≤ _
      simp [List.length_take]; omega
     clear oQ kj kN xo vr hko e2 L
     go_wp2_with fail
     generalize (wr.alloc (E (yv o.id o.side o.ticks o.left o.life o.tag).toArray 66)) = yb at HEY HOY HKY ⊢
     refine (bX (expE o) yb (U HEY) (U HLN)).mono ?_
     rintro e w6 ⟨rfl,⟨vo7,hE7⟩,hk7,ht7⟩
     have HN:Hid (ORow w6 w.heap.size (.slice (some (J b off)) xY.length cg) xY∧(∃ qp,EnS mb B Bo w6 gv gs gl next vq l t qp (ts ++ [⟨8,zCm,0,0,(xY.length:Nat),0,0⟩] ++ (xY.take (k + 1)).map expE))∧KeptBut mb B w w6):=⟨aV (U HOY) ht7 (zj (U HOY) (U HEY).box (by decide)) (zA (U HOY) (U HEY).erow (by decide)),⟨vo7,by rw [U qf]; exact hE7⟩,zi (U HKY) hk7⟩
     clear hE7 hk7 ht7
     go_wp2_with fail
     go_roundw
     case rel=>exact ⟨k + 1,by omega,by go_num,U HN⟩
     case measure=>simp [intOf]; omega
    ·obtain rfl:k = xY.length:=by omega
     rw [yZ tg] at kj
     have hlt2':¬ (xY.length:Int) < xY.length:=by omega
     have qg:=Y kj
     have pZ:=Y kN
     clear oQ kj kN
     go_wp2_with fail
     refine U xu _ _ ?_
     clear xu
     have z2:wr.cell? (J mb 2) = some vq:=(U qg).cells 2 _ rfl
     go_wp2_with fail
     refine (deleteDay_row B vq l wr (by omega) (U qg).orow).mono ?_
     rintro e w7 ⟨vw,rfl,ho7,hg7,-⟩
     have qF:some mb ≠ vq.ownBlock:=zj (U qg).orow (U qg).box (by decide)
     have y2:w7.cell? (J mb 2) = some vq:=hg7.cell z2 qF
     have f2:w7.frozen? (J mb 2) = false:=(World.frozen?_of_block (a:=(J mb 2)) (hg7.block mb (U qg).lt qF)).trans (by have:=((U qg).there 2 (by omega)).2; rwa [Nat.zero_add] at this)
     obtain ⟨aq,cq,jn,-,-⟩:=zK ho7 (yN (List.length_filter_le _ _) (by omega))
     subst jn
     have hbx7:∃ xr,w7.heap[mb]? = some (.cells xr 49 (0,0)):=by obtain ⟨xr,hc⟩:=(U qg).box; exact ⟨xr,(hg7.block mb (U qg).lt qF).trans hc⟩
     have ht8:TookAt mb 1 vq.ownBlock wr (w7.setCell (J mb 2) (.slice aq (l.filter ndy).length cq)):=bN (br hg7 (U qg).lt qF) (cP (o:=1) _ _)
     have HE8:=Y (ens_took (U qg) (yM _ _ _ y2) (zr ho7 (zj ho7 hbx7 (by decide)) 2 _) ht8)
     have HK8:=Y (zi (U pZ) (cw ht8 (yN (U qg).bo (U qg).le) (fun g' hg'=>((U qg).orow.lt g' hg').1)))
     clear ho7 hg7 ht8 hbx7 z2
     go_wp2_with fail
     go_end0
     rw [U HGO]
     exact ⟨rfl,⟨_,vo6,U HE8⟩,U HK8⟩
theorem rest_took (mb B:Nat) (next:Int) (vq:Value) (l:List Od) (t:Od) (vt:Value) (ts:List Ev) (w:World) (h:MatS mb B w next vq l t vt ts) (hn:l.length ≤ 1000) :
  Calls Tryz.prog 57 #[I mb 0] w fun e w'=>∃ vw,e = ym (.tuple #[])∧MatS mb B w' next vw (l ++ [t]) t vt ts∧TookAt mb 0 vq.ownBlock w w':=by
 have HM:=Y h
 have qz:=h.lt
 have pA:=h.le
 have qF:=h.nq
 have uB:=Y h.box
 have jT:=Y h.orow
 have hM:=Y h.cells
 have qe:Hid (w.cell? (J mb 1) = some vq):=U hM 1 _ rfl
 have qK:Hid (w.frozen? (J mb 1) = false):=by have:=(h.there 1 (by omega)).2; rwa [Nat.zero_add] at this
 clear h
 obtain ⟨i0,uE,uA,uC,uM⟩:=info_parts Tryz.infoOrder
 go_enter Tryz.func57,Tryz.ntmps57
 go_wp2_with fail
 refine zh (RT (fun V=>yn w V) (fun f=>{ tmps:=#[I mb 0,M,f 0,f 1,f 2,f 3,f 4,f 5,f 6,f 7,f 8,f 9,f 10,f 11,f 12,f 13,f 14],defers:=[] }) 11 15 (DR mb B w vq l t)) (by kernel_rfl) ?_ ?_ ?_
 ·exact ⟨fun _=>M,rfl,fun _=>⟨rfl,rfl,rfl,Nat.le_refl _,fun _ _=>rfl⟩,fun j R=>by rw [yI] at R; split at R <;> simp at R⟩
 ·rintro x xm V ⟨f,rfl,-,hD⟩ hx xP
  have xp:=zT xP hx (acyc _ (by kernel_rfl))
  have oe:x[11]? = some true:=xp 11 (by simp)
  have k15:x[15]? = some true:=xp 15 (by simp)
  obtain ⟨va,vc,-,-,-,uU⟩:=hD 11 oe
  obtain ⟨q1,q2,q3⟩:=uU k15
  have vu:Hid (_∧_∧_):=⟨q1,q2,q3⟩
  clear hD xp xP hx oe k15 uU q1 q2 q3
  dsimp only
  go_wp2_with fail
  go_end0
  exact ⟨_,rfl,matS_took (U HM) (U vu).2.2 (U vu).1 (U vu).2.1,(U vu).2.2⟩
 ·rintro x xm V i op ⟨f,rfl,ju,hD⟩ xo hx Z xy D
  have uj:=Y ju
  have HD:=Y hD
  have xn:∀ b o u,w.cell? (J b o) = some u→¬ x[11]? = some true→V.cell? (J b o) = some u:=fun b o u hu hn11=>((U uj hn11).cell (p:=(J b o)) (yK w _ hu)).trans hu
  have pQ:i < 11→0 < i→¬ x[11]? = some true:=fun xK jy uX=>by
   have h5:=yf xo 11 rfl uX 5 rfl
   have vS:=yf xo 11 rfl uX 10 rfl
   have h4:=yf xo 5 rfl h5 4 rfl
   have h9:=yf xo 10 rfl vS 9 rfl
   have h3:=yf xo 4 rfl h4 3 rfl
   have h8:=yf xo 9 rfl h9 8 rfl
   have N:=yf xo 3 rfl h3 2 rfl
   have h7:=yf xo 8 rfl h8 7 rfl
   have Q:=yf xo 2 rfl N 1 rfl
   have h6:=yf xo 7 rfl h7 6 rfl
   have uk:∀ j,0 < j→j < 11→x[j]? = some true:=fun j jd R=>by
    rcases (by omega:j = 1 ∨ j = 2 ∨ j = 3 ∨ j = 4 ∨ j = 5 ∨ j = 6 ∨ j = 7 ∨ j = 8 ∨ j = 9 ∨ j = 10) with rfl | rfl | rfl | rfl | rfl | rfl | rfl | rfl | rfl | rfl <;> assumption
   rw [uk i jy xK] at xy; cases xy
  have n15':i < 15→¬ x[15]? = some true:=fun xK vx=>by
   have ji:=yf xo 15 rfl vx 14 rfl
   have uX:=yf xo 15 rfl vx 11 rfl
   have jr:=yf xo 14 rfl ji 13 rfl
   have h5:=yf xo 11 rfl uX 5 rfl
   have vS:=yf xo 11 rfl uX 10 rfl
   have qy:=yf xo 13 rfl jr 12 rfl
   have h4:=yf xo 5 rfl h5 4 rfl
   have h9:=yf xo 10 rfl vS 9 rfl
   have h0:=yf xo 12 rfl qy 0 rfl
   have h3:=yf xo 4 rfl h4 3 rfl
   have h8:=yf xo 9 rfl h9 8 rfl
   have N:=yf xo 3 rfl h3 2 rfl
   have h7:=yf xo 8 rfl h8 7 rfl
   have Q:=yf xo 2 rfl N 1 rfl
   have h6:=yf xo 7 rfl h7 6 rfl
   have uk:∀ j,j < 15→x[j]? = some true:=fun j R=>by
    rcases (by omega:j = 0 ∨ j = 1 ∨ j = 2 ∨ j = 3 ∨ j = 4 ∨ j = 5 ∨ j = 6 ∨ j = 7 ∨ j = 8 ∨ j = 9 ∨ j = 10 ∨ j = 11 ∨ j = 12 ∨ j = 13 ∨ j = 14) with rfl | rfl | rfl | rfl | rfl | rfl | rfl | rfl | rfl | rfl | rfl | rfl | rfl | rfl | rfl <;> assumption
   rw [uk i xK] at xy; cases xy
  clear xo ju
  match i,Z with
  | 0,Z | 1,Z | 6,Z =>
   obtain rfl:=ya Z
   clear D hD
   rw [if_pos (by rfl)];unfold Oper.wp;go_simp
   exact ⟨upd f _ (I mb 0),by simp [upd],zv (U HD) (by decide) (by decide) (fun _ _ h=>h) (U uj) rfl⟩
  | 2,Z =>
   obtain rfl:=ya Z
   have g:f 1 = I mb 0:=hD 1 (ye D 1 rfl)
   clear D hD
   rw [if_pos (by rfl)];unfold Oper.wp;go_simp
   exact ⟨upd f 2 (I mb 0),by simp [upd,g],zv (U HD) (by decide) (by decide) (fun _ _ h=>h) (U uj) rfl⟩
  | 3,Z =>
   obtain rfl:=ya Z
   have g:f 2 = I mb 0:=hD 2 (ye D 2 rfl)
   clear D hD
   rw [if_pos (by rfl)];unfold Oper.wp;go_simp
   exact ⟨upd f 3 (I mb 0),by simp [upd,g],zv (U HD) (by decide) (by decide) (fun _ _ h=>h) (U uj) rfl⟩
  | 4,Z =>
   obtain rfl:=ya Z
   have g:f 3 = I mb 0:=hD 3 (ye D 3 rfl)
   clear D hD
   rw [if_pos (by rfl)];unfold Oper.wp;go_simp
   exact ⟨upd f 4 (I mb 1),by simp [upd,g],zv (U HD) (by decide) (by decide) (fun _ _ h=>h) (U uj) rfl⟩
  | 5,Z =>
   obtain rfl:=ya Z
   have g:f 4 = I mb 1:=hD 4 (ye D 4 rfl)
   have qv:=pQ (by omega) (by omega)
   have y1:=xn mb 1 _ (U qe) qv
   clear D hD
   rw [if_pos (by rfl)];unfold Oper.wp;go_simp
   exact ⟨upd f 5 (vq),by simp [upd,g],zv (U HD) (by decide) (by decide) (fun _ _ h=>h) (U uj) rfl⟩
  | 7,Z =>
   obtain rfl:=ya Z
   have g:f 6 = I mb 0:=hD 6 (ye D 6 rfl)
   clear D hD
   rw [if_pos (by rfl)];unfold Oper.wp;go_simp
   exact ⟨upd f 7 (I mb 0),by simp [upd,g],zv (U HD) (by decide) (by decide) (fun _ _ h=>h) (U uj) rfl⟩
  | 8,Z =>
   obtain rfl:=ya Z
   have g:f 7 = I mb 0:=hD 7 (ye D 7 rfl)
   clear D hD
   rw [if_pos (by rfl)];unfold Oper.wp;go_simp
   exact ⟨upd f 8 (I mb 2),by simp [upd,g],zv (U HD) (by decide) (by decide) (fun _ _ h=>h) (U uj) rfl⟩
  | 9,Z =>
   obtain rfl:=ya Z
   have g:f 8 = I mb 2:=hD 8 (ye D 8 rfl)
   have qv:=pQ (by omega) (by omega)
   have y2:=xn mb 2 _ (U hM 2 _ rfl) qv
   have y3:=xn mb 3 _ (U hM 3 _ rfl) qv
   have y4:=xn mb 4 _ (U hM 4 _ rfl) qv
   have y5:=xn mb 5 _ (U hM 5 _ rfl) qv
   have y6:=xn mb 6 _ (U hM 6 _ rfl) qv
   have y7:=xn mb 7 _ (U hM 7 _ rfl) qv
   clear D hD
   rw [if_pos (by rfl)];unfold Oper.wp;go_simp
   exact ⟨upd f 9 (.agg (yv t.id t.side t.ticks t.left t.life t.tag).toArray),by simp [upd,g],zv (U HD) (by decide) (by decide) (fun _ _ h=>h) (U uj) rfl⟩
  | 10,Z =>
   obtain rfl:=ya Z
   have g:f 9 = .agg (yv t.id t.side t.ticks t.left t.life t.tag).toArray:=hD 9 (ye D 9 rfl)
   have qv:=pQ (by omega) (by omega)
   have xV:=U uj qv
   clear D hD
   rw [if_pos (by rfl)];unfold Oper.wp;go_simp
   refine ⟨upd f 10 (.slice (some (yq V 0)) 1 1),by simp [upd,g],zv (U HD) (by decide) (by decide) (dr_alloc qv) (fun _=>xV.alloc xV.size _) ⟨V.heap.size,rfl,fun _=>?_⟩⟩
   exact fun j u h=>bT V t.vs 66 j u h
  | 11,Z =>
   obtain rfl:=ya Z
   have g5:f 5 = vq:=hD 5 (ye D 5 rfl)
   obtain ⟨s,qC,om⟩:=hD 10 (ye D 10 rfl)
   have qv:¬ x[11]? = some true:=by rw [xy]; simp
   have n15:=n15' (by omega)
   have xV:=U uj qv
   have uV:ORow V B vq l:=zk (U jT) xV
   rw [if_pos (by rfl)]
   refine wp_append_own V (.tmp 7) (.tmp 12) 29 rfl B 66 i0 _ 6 56 Tryz.underlying29 uE uA uC uM rfl (by decide) vq l.length (l.flatMap Od.vs) g5 uV (J s 0) 1 1 t.vs qC rfl (om qv) (one_od t) (by unfold maxLen; omega) (by omega) (by have:=xV.size; omega) ?_
   intro v' w' xL ub _
   obtain ⟨ga,gc,rfl⟩:=dt xL (by omega)
   refine ⟨upd f 11 (.slice (some (J ga 0)) (l.length + 1) gc),rfl,rt_one (by decide) (U HD) xy n15 (fun j v R h=>dr_one j v R h) ⟨some (J ga 0),gc,rfl,trivial,fun _=>⟨?_,?_⟩,fun h=>h.elim⟩⟩
   ·show World.ownsRow _ _ _ _ _ (l ++ [t]).length _
    rw [yP,List.flatMap_append]; simpa using xL
   ·exact (zX xV tg).trans ub
  | 12,Z =>
   obtain rfl:=ya Z
   have g:f 0 = I mb 0:=hD 0 (ye D 0 rfl)
   clear D hD
   rw [if_pos (by rfl)];unfold Oper.wp;go_simp
   exact ⟨upd f 12 (I mb 0),by simp [upd,g],zv (U HD) (by decide) (by decide) (fun _ _ h=>h) (U uj) rfl⟩
  | 13,Z =>
   obtain rfl:=ya Z
   have g:f 12 = I mb 0:=hD 12 (ye D 12 rfl)
   clear D hD
   rw [if_pos (by rfl)];unfold Oper.wp;go_simp
   exact ⟨upd f 13 (I mb 0),by simp [upd,g],zv (U HD) (by decide) (by decide) (fun _ _ h=>h) (U uj) rfl⟩
  | 14,Z =>
   obtain rfl:=ya Z
   have g:f 13 = I mb 0:=hD 13 (ye D 13 rfl)
   clear D hD
   rw [if_pos (by rfl)];unfold Oper.wp;go_simp
   exact ⟨upd f 14 (I mb 1),by simp [upd,g],zv (U HD) (by decide) (by decide) (fun _ _ h=>h) (U uj) rfl⟩
  | 15,Z =>
   obtain rfl:=ya Z
   have kw:f 14 = I mb 1:=hD 14 (ye D 14 rfl)
   have oe:x[11]? = some true:=D ⟨11,.data⟩ (by simp) rfl
   have n15:¬ x[15]? = some true:=by rw [xy]; simp
   obtain ⟨ga,gc,vF,-,hfa,-⟩:=hD 11 oe
   obtain ⟨jW,ub⟩:=hfa n15
   have qQ:some mb ≠ vq.ownBlock:=qF
   have y1:=ub.cell (U qe) qQ
   have f1:V.frozen? (J mb 1) = false:=(World.frozen?_of_block (a:=(J mb 1)) (ub.block mb (by omega) qQ)).trans (U qK)
   have jM:=Y (vF ▸ jW)
   have pj:Hid (∃ xr,V.heap[mb]? = some (.cells xr 105 (0,0))):=by obtain ⟨xr,hc⟩:=U uB; exact ⟨xr,(ub.block mb (by omega) qQ).trans hc⟩
   have oz:=Y ub
   clear D hD jW ub hfa
   rw [if_pos (by rfl)];unfold Oper.wp;go_simp
   refine ⟨upd f 15 M,by simp [upd,kw,vF],rt_two (by decide) (U HD) oe xy (fun j R hxj h=>dr_two j R h (fun hj11=>?_)) trivial⟩
   subst hj11
   obtain ⟨-,-,-,-,-,-⟩:=h
   refine ⟨ga,gc,vF,trivial,fun h=>absurd trivial h,fun _=>?_⟩
   rw [vF]
   refine ⟨yM _ _ _ y1,zr (U jM) (zj (U jM) (U pj) (by decide)) 1 _,?_⟩
   exact bN (br (U oz) (by omega) qQ) (cP (o:=0) _ _)
  | i + 16,Z=>simp at Z
theorem gqY {x:List Bool} {i j:Nat} (h:i ≠ j):(x.set i true)[j]? = x[j]?:=yW h
theorem gqsY {x:List Bool} {i:Nat} (h:x[i]? = some false):(x.set i true)[i]? = some true:=List.getElem?_set_self (yG.1 h).1
def ancS (l:List Oper) (s:List Nat):List Nat:=s ++ s.flatMap fun i=>match l[i]? with
 | some o=>(o.after.toList.filter fun e=>Region.binds .any e).map fun e=>e.on
 | none=>[]
def ancN (l:List Oper):Nat→List Nat→List Nat
 | 0,s=>s
 | n + 1,s=>ancN l n (ancS l s).eraseDups
theorem ancS_true {l:List Oper} {x:List Bool} (hc:Closed l x) {s:List Nat} (hs:∀ i ∈ s,x[i]? = some true):∀ i ∈ ancS l s,x[i]? = some true:=by
 intro i hi
 rcases List.mem_append.1 hi with h | h
 ·exact hs i h
 ·obtain ⟨k,hk,hm⟩:=List.mem_flatMap.1 h
  split at hm
  ·next o Z =>
   obtain ⟨e,he,rfl⟩:=List.mem_map.1 hm
   obtain ⟨he1,he2⟩:=List.mem_filter.1 he
   exact hc k o Z (hs k hk) e (by simpa using he1) he2
  ·simp at hm
theorem ancN_true {l:List Oper} {x:List Bool} (hc:Closed l x):∀ (n:Nat) (s:List Nat),(∀ i ∈ s,x[i]? = some true)→∀ i ∈ ancN l n s,x[i]? = some true
 | 0,s,hs=>hs
 | n + 1,s,hs=>ancN_true hc n _ (fun i hi=>ancS_true hc hs i (List.mem_eraseDups.1 hi))
theorem zw {l:List Oper} {x:List Bool} (hc:Closed l x) (d i n:Nat) (hB:(ancN l d [n]).contains i = true) (hx:x.length = l.length) (hn:n < l.length) (hi:x[i]? = some false):x[n]? = some false:=by
 rcases bE hx hn with h | h
 ·exact h
 ·have:=ancN_true hc d [n] (by simpa using h) i (by simpa using hB)
  rw [hi] at this; cases this
structure RY (C:World→Nat→Value→Prop) (n:Nat) (h1:(Nat→Value)→World→Prop) (base:World) (x:List Bool) (f:Nat→Value) (W:World):Prop where
 b:x[n]? = some false→Below base.heap.size base W
 c:x[n]? = some false→∀ j,x[j]? = some true→C W j (f j)
 m:x[n]? = some true→h1 f W
def RYA (qt:(Nat→Value)→Act) (C:World→Nat→Value→Prop) (n:Nat) (h1:(Nat→Value)→World→Prop) (base:World) (x:List Bool) (xm:Act) (W:World):Prop:=∃ f,xm = qt f∧RY C n h1 base x f W
section
variable {C:World→Nat→Value→Prop} {n:Nat} {h1:(Nat→Value)→World→Prop} {base W W':World} {x:List Bool} {f:Nat→Value}
theorem ry_start {k:Nat} {f:Nat→Value} (hk:n < k):RY C n h1 base (List.replicate k false) f { base with drawn:=base.drawn + 1 } :=
 ⟨fun _=>⟨rfl,rfl,rfl,Nat.le_refl _,fun _ _=>rfl⟩,fun _ j R=>by rw [yI] at R; split at R <;> simp at R,fun h=>by rw [yI] at h; split at h <;> simp at h⟩
theorem zV (h:RY C n h1 base x f W) (i:Nat) (v:Value) (hn:x[n]? = some false) (uu:i ≠ n) (hv:C W i v):RY C n h1 base (x.set i true) (upd f i v) W:=by
 refine ⟨fun _=>h.b hn,fun _ j R=>?_,fun e=>by rw [gqY uu,hn] at e; cases e⟩
 by_cases hji:j = i
 ·subst hji; rw [zn]; exact hv
 ·rw [zo _ _ hji]; rw [gqY (fun e=>hji e.symm)] at R; exact h.c hn j R
theorem ry_grow (hm:∀ W W' j v,yn W W'→C W j v→C W' j v) (h:RY C n h1 base x f W) (hn:x[n]? = some false) (L:yn W W'):RY C n h1 base x f W' :=
 ⟨fun _=>(h.b hn).trans (L.mono (h.b hn).size),fun _ j R=>hm _ _ _ _ L (h.c hn j R),fun e=>by rw [hn] at e; cases e⟩
theorem ry_write (h:RY C n h1 base x f W) (hn:x[n]? = some false) (v:Value) (hq:h1 (upd f n v) W'):RY C n h1 base (x.set n true) (upd f n v) W' :=
 ⟨fun e=>(by rw [gqsY hn] at e; cases e),fun e=>(by rw [gqsY hn] at e; cases e),fun _=>hq⟩
theorem ry_writeN (h:RY C n h1 base x f W) (hn:x[n]? = some false) (hq:h1 f W'):RY C n h1 base (x.set n true) f W' :=
 ⟨fun e=>(by rw [gqsY hn] at e; cases e),fun e=>(by rw [gqsY hn] at e; cases e),fun _=>hq⟩
theorem ry_after (h:RY C n h1 base x f W) (i:Nat) (v:Value) (hn:x[n]? = some true) (uu:i ≠ n) (hq:h1 f W→h1 (upd f i v) W):RY C n h1 base (x.set i true) (upd f i v) W :=
 ⟨fun e=>(by rw [gqY uu,hn] at e; cases e),fun e=>(by rw [gqY uu,hn] at e; cases e),fun _=>hq (h.m hn)⟩
end
def KB (hj:Nat) (W W':World):Prop:=KeptBut hj W.heap.size W W'
theorem kb_trans {hj:Nat} {W W1 W2:World} (Q:KB hj W W1) (N:KB hj W1 W2):KB hj W W2 :=
 ⟨N.os.trans Q.os,N.tape.trans Q.tape,N.output.trans Q.output,yN Q.size N.size,fun k hk hm=>(N.block k (yJ hk Q.size) hm).trans (Q.block k hk hm)⟩
theorem kb_below {hj:Nat} {W W':World} (h:yn W W'):KB hj W W':=⟨h.os,h.tape,h.output,h.size,fun k hk _=>h.block k hk⟩
theorem kb_setCells (hj o:Nat) (vs:List Value) (W:World):KB hj W (W.setCells hj o vs) :=
 ⟨dU _ _ _ _,dP _ _ _ _,dO _ _ _ _,by rw [bM]; exact Nat.le_refl _,fun k _ hm=>cU _ _ hm _ _ _⟩
theorem kb_row {hj B e sz n:Nat} {v:Value} {xs:List Value} {W W':World} (h:W.ownsRow B e sz v n xs) (L:KB hj W W') (K:hj < B):W'.ownsRow B e sz v n xs:=by
 refine ⟨h.1,?_⟩
 rcases h.2 with hn | ⟨g,A,xr,rfl,hg,kM,rest⟩
 ·exact .inl hn
 ·exact .inr ⟨g,A,xr,rfl,hg,(L.block g (yY.1 kM).1 (by omega)).trans kM,rest⟩
theorem kb_cell {hj:Nat} {W W':World} (L:KB hj W W') {p:Addr} {u:Value} (h:W.cell? p = some u) (hp:p.block ≠ hj):W'.cell? p = some u :=
 (yQ (a:=p) (L.block p.block (yK W _ h) hp)).trans h
theorem kb_range {hj:Nat} {W W':World} (L:KB hj W W') {b o:Nat} {cs:List Value} (h:W.rangeAt b o cs) (hp:b ≠ hj):W'.rangeAt b o cs:=fun j u R=>kb_cell L (h j u R) hp
structure RX (C:World→Nat→Value→Prop) (hj m st:Nat) (Rv:(Nat→Value)→List Value) (base:World) (x:List Bool) (f:Nat→Value) (W:World):Prop where
 k:KB hj base W
 lt:hj < base.heap.size
 t:W.there hj 0 m
 c:∀ j,x[j]? = some true→C W j (f j)
 r:x[st]? = some true→W.rangeAt hj 0 (Rv f)
def RXA (qt:(Nat→Value)→Act) (C:World→Nat→Value→Prop) (hj m st:Nat) (Rv:(Nat→Value)→List Value) (base:World) (x:List Bool) (xm:Act) (W:World):Prop:=∃ f,xm = qt f∧RX C hj m st Rv base x f W
section
variable {C:World→Nat→Value→Prop} {hj m st:Nat} {Rv:(Nat→Value)→List Value} {base W W':World} {x:List Bool} {f:Nat→Value}
theorem rx_start {k:Nat} {f:Nat→Value} (hl:hj < base.heap.size) (ht:base.there hj 0 m):RX C hj m st Rv base (List.replicate k false) f { base with drawn:=base.drawn + 1 } :=
 ⟨⟨rfl,rfl,rfl,Nat.le_refl _,fun _ _ _=>rfl⟩,hl,ht,fun j R=>by rw [yI] at R; split at R <;> simp at R,fun h=>by rw [yI] at h; split at h <;> simp at h⟩
theorem aD (h:RX C hj m st Rv base x f W) (i:Nat) (v:Value) (his:i ≠ st) (hr:x[st]? = some true→Rv (upd f i v) = Rv f) (hv:C W i v):RX C hj m st Rv base (x.set i true) (upd f i v) W:=by
 refine ⟨h.k,h.lt,h.t,fun j R=>?_,fun e=>?_⟩
 ·by_cases hji:j = i
  ·subst hji; rw [zn]; exact hv
  ·rw [zo _ _ hji]; rw [gq (fun e=>hji e.symm)] at R; exact h.c j R
 ·rw [gq his] at e; rw [hr e]; exact h.r e
theorem rx_grow (hm:∀ W W' j v,KB hj W W'→C W j v→C W' j v) (h:RX C hj m st Rv base x f W) (L:yn W W'):RX C hj m st Rv base x f W' :=
 ⟨kb_trans h.k (kb_below L),h.lt,zf h.t L (yJ h.lt h.k.size),fun j R=>hm _ _ _ _ (kb_below L) (h.c j R),fun e=>zb (h.r e) L (yJ h.lt h.k.size)⟩
theorem rx_store (hm:∀ W W' j v,KB hj W W'→C W j v→C W' j v) (h:RX C hj m st Rv base x f W) (hx:x[st]? = some false) (hl:(Rv f).length = m) (hC:∀ W v,C W st v):RX C hj m st Rv base (x.set st true) f (W.setCells hj 0 (Rv f)):=by
 refine ⟨kb_trans h.k (kb_setCells _ _ _ _),h.lt,xb h.t _ _ _,fun j R=>?_,fun _=>yX W hj 0 _ (fun j R=>h.t j (by omega))⟩
 by_cases hji:j = st
 ·subst hji; exact hC _ _
 ·rw [gq (fun e=>hji e.symm)] at R; exact hm _ _ _ _ (kb_setCells _ _ _ _) (h.c j R)
end
end Go.Proofs.YtdliebbfcmdmaaaGreat
