/-
  A trade with the front, by the program: proved by walking the method.
-/
import Derived.Test.YtdliebbfcmdmaaaGreatMj12
set_option linter.unusedVariables false
set_option maxHeartbeats 6400000
set_option maxRecDepth 100000
namespace Go.Proofs.YtdliebbfcmdmaaaGreat
open Go.RowKit
structure MatS (mb B:Nat) (W:World) (next:Int) (vq:Value) (l:List Od) (t:Od) (vt:Value) (ts:List Ev):Prop where
 cells:W.rangeAt mb 0 [.int .i64 next,vq,.int .i64 t.id,.int .i64 t.side,.int .i64 t.ticks,.int .i64 t.left,.int .i64 t.life,.string t.tag,vt]
 there:W.there mb 0 9
 orow:ORow W B vq l
 erow:ERow W B vt ts
 box:∃ cur,W.heap[mb]? = some (.cells cur 105 (0,0))
 le:B ≤ W.heap.size
structure KeptBut (mb B:Nat) (w w':World):Prop where
 os:w'.os = w.os
 tape:w'.tape = w.tape
 output:w'.output = w.output
 size:w.heap.size ≤ w'.heap.size
 block:∀ k,k < B→k ≠ mb→w'.heap[k]? = w.heap[k]?
theorem zi {mb B:Nat} {w w1 w2:World} (Q:KeptBut mb B w w1) (N:KeptBut mb B w1 w2):KeptBut mb B w w2 :=
 ⟨N.os.trans Q.os,N.tape.trans Q.tape,N.output.trans Q.output,yN Q.size N.size,fun k hk hm=>(N.block k hk hm).trans (Q.block k hk hm)⟩
theorem zz {mb B C:Nat} {w w1:World} (h:Below C w w1) (hC:B ≤ C):KeptBut mb B w w1 :=
 ⟨h.os,h.tape,h.output,h.size,fun k hk _=>h.block k (by omega)⟩
theorem cw {mb B o:Nat} {G:Option Nat} {w w1:World} (h:TookAt mb o G w w1) (hB:B ≤ w.heap.size) (hG:∀ g,G = some g→B ≤ g):KeptBut mb B w w1 :=
 ⟨h.os,h.tape,h.output,h.size,fun k hk hm=>h.block k (by omega) hm (fun e=>by have:=hG k e.symm; omega)⟩
theorem cA {mb B:Nat} (w:World) (o:Nat) (u:Value):KeptBut mb B w (w.setCell (J mb o) u) :=
 ⟨rfl,rfl,rfl,by simp [World.setCell],fun k _ hm=>yS _ _ _ _ hm⟩
theorem kept_drew {mb B:Nat} {w w1:World} (h:KeptBut mb B w w1):KeptBut mb B w w1.drew:=⟨h.os,h.tape,h.output,h.size,h.block⟩
theorem aV {p o B e sz n:Nat} {G:Option Nat} {v:Value} {xs:List Value} {w w':World} (h:w.ownsRow B e sz v n xs) (ht:TookAt p o G w w') (hp:some p ≠ v.ownBlock) (xB:v.ownBlock = none ∨ v.ownBlock ≠ G):w'.ownsRow B e sz v n xs:=by
 refine ⟨h.1,?_⟩
 rcases h.2 with hn | ⟨g,A,xr,rfl,L,kM,rest⟩
 ·exact .inl hn
 ·refine .inr ⟨g,A,xr,rfl,L,?_,rest⟩
  rw [ht.block g (yY.1 kM).1 (by simpa [Value.ownBlock] using Ne.symm hp) (by simpa [Value.ownBlock] using xB)]
  exact kM
theorem zj {B e sz n b:Nat} {T:TypeId} {v:Value} {xs:List Value} {w:World} (h:w.ownsRow B e sz v n xs) (L:∃ xr,w.heap[b]? = some (.cells xr T (0,0))) (xB:T ≠ e):some b ≠ v.ownBlock:=by
 obtain ⟨cb,L⟩:=L
 rcases h.2 with ⟨rfl,_⟩ | ⟨g,A,xr,rfl,_,kM,rest⟩
 ·simp [Value.ownBlock]
 ·intro e0
  simp only [Value.ownBlock,Option.some.injEq] at e0
  subst e0
  rw [L] at kM
  simp only [Option.some.injEq,Obj.cells.injEq] at kM
  exact xB kM.2.1
theorem MatS.nq {mb B:Nat} {W:World} {next:Int} {vq:Value} {l:List Od} {t:Od} {vt:Value} {ts:List Ev} (h:MatS mb B W next vq l t vt ts):some mb ≠ vq.ownBlock:=zj h.orow h.box (by decide)
theorem MatS.nt {mb B:Nat} {W:World} {next:Int} {vq:Value} {l:List Od} {t:Od} {vt:Value} {ts:List Ev} (h:MatS mb B W next vq l t vt ts):some mb ≠ vt.ownBlock:=zj h.erow h.box (by decide)
theorem MatS.lt {mb B:Nat} {W:World} {next:Int} {vq:Value} {l:List Od} {t:Od} {vt:Value} {ts:List Ev} (h:MatS mb B W next vq l t vt ts):mb < W.heap.size:=by
 obtain ⟨xr,h⟩:=h.box
 exact (yY.1 h).1
theorem zA {B B' e e' sz sz' n n':Nat} {v v':Value} {xs xs':List Value} {w:World} (h:w.ownsRow B e sz v n xs) (h':w.ownsRow B' e' sz' v' n' xs') (xB:e ≠ e'):v.ownBlock = none ∨ v.ownBlock ≠ v'.ownBlock:=by
 rcases h.2 with ⟨rfl,_⟩ | ⟨g,A,xr,rfl,L,kM,rest⟩
 ·exact .inl rfl
 ·refine .inr ?_
  rcases h'.2 with ⟨rfl,_⟩ | ⟨g',pw,cur',rfl,kL,hgg',rest'⟩
  ·simp [Value.ownBlock]
  ·intro e0
   simp only [Value.ownBlock,Option.some.injEq] at e0
   subst e0
   rw [kM] at hgg'
   simp only [Option.some.injEq,Obj.cells.injEq] at hgg'
   exact xB hgg'.2.1
theorem trade_any (mb B:Nat) (next:Int) (vq:Value) (l:List Od) (t:Od) (vt:Value) (ts:List Ev) (o:Od) (k:Nat) (w:World) (h:MatS mb B w next vq l t vt ts)
  (hk:plc l o.id = k) (hc:l[k]? = some o) (hn:l.length ≤ 1000) (hts:ts.length ≤ 1000) (ht0:0 ≤ t.left) (ht1:t.left ≤ 1000000) (ho0:0 ≤ o.left) (qb:o.left ≤ 1000000) (qty:Int) (hq:qty = min t.left o.left) :
  Calls Tryz.prog 87 #[I mb 0,.agg (yv o.id o.side o.ticks o.left o.life o.tag).toArray] w fun e w' =>
   ∃ vw vt',e = ym (.tuple #[])∧MatS mb B w' next vw (az l k o qty) { t with left:=t.left - qty } vt' (ts ++ [trE t.id o.id qty o.ticks])∧KeptBut mb B w w':=by
 obtain ⟨uK,uT,xw,xH,uS,qc⟩:=o
 simp only at *
 have HM:=Y h
 have qz:=h.lt
 have pA:=h.le
 have qF:=h.nq
 have hnt:=h.nt
 have xW:Hid (yn w (w.alloc (E (yv uK uT xw xH uS qc).toArray 66))):=ed _ _
 have jz:=zb h.cells (U xW) qz
 have hf1:=zg w (yv uK uT xw xH uS qc) 66
 have y5:=jz 5 _ rfl
 have z3:=hf1 3 _ rfl
 simp only [Nat.zero_add] at y5 z3
 have jD:=Y jz
 have qK:=Y hf1
 have HK:=Y hk
 have HC:=Y hc
 have HQ:=Y hq
 clear h jz hf1 hk hc hq
 go_enter Tryz.func87,Tryz.ntmps87
 go_wp2_with fail
 have qK:Hid (World.rangeAt (w.alloc (E (yv uK uT xw xH uS qc).toArray 66)) w.heap.size 0 (yv uK uT xw xH uS qc)):=U qK
 have z3:World.cell? (w.alloc (E (yv uK uT xw xH uS qc).toArray 66)) (yq w 3) = some (H xH):=z3
 generalize (w.alloc (E (yv uK uT xw xH uS qc).toArray 66)) = W1 at xW jD qK y5 z3 ⊢
 have hmin:∀ W,(Builtin.min_ #[3,3] 3 #[H t.left,H xH]).run Tryz.prog W = .ok (H qty) W:=fun W=>by
  rw [U HQ]
  by_cases kl:t.left ≤ xH
  ·rw [Int.min_eq_left kl]; go_simp; omega
  ·rw [Int.min_eq_right (by omega)]; go_simp
 go_quiet (fail)
 go_wp2_with fail
 have hB0:Hid (yn w (W1.drewN nq)):=cH (U xW) nq
 have hM:Hid ((W1.drewN nq).rangeAt mb 0 [H next,vq,H t.id,H t.side,H t.ticks,H t.left,H t.life,yk t.tag,vt]):=U jD
 have hFF:Hid ((W1.drewN nq).rangeAt w.heap.size 0 (yv uK uT xw xH uS qc)):=U qK
 have hT9:Hid ((W1.drewN nq).there mb 0 9):=zf (U HM).there (U hB0) qz
 have vL:Hid (ERow (W1.drewN nq) B vt ts):=zG (U HM).erow (U hB0)
 have uB:Hid (∃ xr,(W1.drewN nq).heap[mb]? = some (.cells xr 105 (0,0))):=by obtain ⟨xr,hc⟩:=(U HM).box; exact ⟨xr,((U hB0).block mb qz).trans hc⟩
 have jT:Hid (ORow (W1.drewN nq) B vq l):=zk (U HM).orow (U hB0)
 have xA:w.heap.size < (W1.drewN nq).heap.size:=yK (W1.drewN nq) (yq w (0 + 0)) (U hFF 0 _ rfl)
 clear y5 z3 hmin jD qK xW
 generalize W1.drewN nq = W0 at hB0 hM hFF hT9 vL jT uB xA ⊢
 have af:Hid (W0.cell? (J mb 8) = some vt):=U hM 8 _ rfl
 have vD:Hid (W0.cell? (J mb 2) = some (H t.id)):=U hM 2 _ rfl
 have HF0:Hid (W0.cell? (yq w 0) = some (H uK)):=U hFF 0 _ rfl
 have HF2:Hid (W0.cell? (yq w 2) = some (H xw)):=U hFF 2 _ rfl
 have HF8:Hid (W0.frozen? (J mb 8) = false):=by have:=(U hT9 8 (by omega)).2; rwa [Nat.zero_add] at this
 have hmw0:mb < W0.heap.size:=by omega
 have hBW0:B ≤ W0.heap.size:=by omega
 obtain ⟨i0,uE,uA,uC,uM⟩:=info_parts infoEv
 refine zh (RT (fun V=>yn W0 V) (fun f=>{ tmps:=#[I mb 0,.agg (yv uK uT xw xH uS qc).toArray,M,yp w 0,H qty,I mb 0,I mb 0,I mb 2,I mb 5,H t.left,yp w 3,H xH,H qty,f 0,f 1,f 2,f 3,f 4,f 5,f 6,f 7,f 8,f 9,f 10,f 11,f 12,f 13,f 14,f 15,f 16,f 17,f 18,f 19,M,M,M,M,M,M,M,M,M,M,M,M,M,M,M,M,M],defers:=[] }) 17 20 (DT mb w.heap.size B W0 vt ts t.id uK qty xw)) (by kernel_rfl) ?_ ?_ ?_
 ·exact ⟨fun _=>M,rfl,fun _=>⟨rfl,rfl,rfl,Nat.le_refl _,fun _ _=>rfl⟩,fun j R=>by rw [yI] at R; split at R <;> simp at R⟩
 ·rintro x xm V ⟨f,rfl,-,hD⟩ hx xP
  have xp:=zT xP hx (acyc _ (by kernel_rfl))
  have k17:x[17]? = some true:=xp 17 (by simp)
  have k20:x[20]? = some true:=xp 20 (by simp)
  obtain ⟨va,vc,-,-,-,uU⟩:=hD 17 k17
  obtain ⟨q1,q2,q3⟩:=uU k20
  have vu:Hid (_∧_∧_):=⟨q1,q2,q3⟩
  clear hD xp xP hx k17 k20 uU q1 q2 q3
  dsimp only
  generalize f 17 = v17 at vu ⊢
  generalize f 0 = a0,f 1 = a1,f 2 = a2,f 3 = a3,f 4 = a4,f 5 = a5,f 6 = a6,f 7 = a7,f 8 = a8,f 9 = a9,f 10 = a10,f 11 = a11,f 12 = a12,f 13 = a13,f 14 = a14,f 15 = a15,f 16 = a16,f 18 = a18,f 19 = a19
  obtain ⟨q1,q2,q3⟩:=U vu
  have hvtB:∀ g,vt.ownBlock = some g→B ≤ g∧g < w.heap.size:=(U HM).erow.lt
  have z0:V.cell? (yq w 0) = some (H uK):=(yQ (a:=(yq w 0)) (q3.block w.heap.size xA (by omega) (fun e=>by have:=hvtB _ e.symm; omega))).trans (U HF0)
  have y5:V.cell? (J mb 5) = some (H t.left):=(q3.cell 5 (by omega)).trans (U hM 5 _ rfl)
  have f5:V.frozen? (J mb 5) = false:=(q3.frozen 5).trans (by have:=(U hT9 5 (by omega)).2; rwa [Nat.zero_add] at this)
  have hwr:IntKind.i64.wrap (t.left - qty) = t.left - qty:=by rw [IntKind.wrap_i64]; have:=U HQ; omega
  have hbxV:∃ xr,V.heap[mb]? = some (.cells xr 105 (0,0)):=by obtain ⟨xr,hc⟩:=U uB; exact q3.kind _ _ _ hc
  have hn17:some mb ≠ v17.ownBlock:=zj q2 hbxV (by decide)
  have HBX2:Hid (∃ xr,(V.setCell (J mb 5) (H (t.left - qty))).drew.heap[mb]? = some (.cells xr 105 (0,0))):=by obtain ⟨xr,hc⟩:=hbxV; exact zM V mb 5 _ hc
  have hms2:mb < (V.setCell (J mb 5) (H (t.left - qty))).drew.heap.size:=by
   have:=q3.size
   show mb < (V.setCell (J mb 5) (H (t.left - qty))).heap.size
   simp [World.setCell]; omega
  have q4:ORow V B vq l:=aV (U jT) q3 qF (zA (U jT) (U vL) (by decide))
  have Z0:(V.setCell (J mb 5) (H (t.left - qty))).drew.cell? (yq w 0) = some (H uK):=(yL _ _ _ _ (fun e=>by have:=congrArg Addr.block e; simp at this; omega)).trans z0
  have vW:Hid (ORow (V.setCell (J mb 5) (H (t.left - qty))).drew B vq l):=zr q4 qF 5 _
  have pW:Hid (ERow (V.setCell (J mb 5) (H (t.left - qty))).drew B v17 (ts ++ [trE t.id uK qty xw])):=zr q2 (zj q2 hbxV (by decide)) 5 _
  have kn:Hid ((V.setCell (J mb 5) (H (t.left - qty))).drew.cell? (J mb 5) = some (H (t.left - qty))):=yM _ _ _ y5
  have HCO:Hid (∀ j,j ≠ 5→(V.setCell (J mb 5) (H (t.left - qty))).drew.cell? (J mb j) = V.cell? (J mb j)):=fun j R=>yL _ _ _ _ (zO (fun e=>R e.symm))
  have HFR:Hid (∀ j,(V.setCell (J mb 5) (H (t.left - qty))).drew.frozen? (J mb j) = V.frozen? (J mb j)):=fun j=>World.frozen?_setCell _ _ _ _
  have xu:Hid (KeptBut mb B w (V.setCell (J mb 5) (H (t.left - qty))).drew):=kept_drew (zi (zi (zz (U hB0) (by omega)) (cw q3 (by omega) (fun g hg=>(hvtB g hg).1))) (cA V 5 _))
  have uc:B ≤ (V.setCell (J mb 5) (H (t.left - qty))).drew.heap.size:=by
   have:=q3.size
   show B ≤ (V.setCell (J mb 5) (H (t.left - qty))).heap.size
   simp [World.setCell]; omega
  clear q2 q4 vu hbxV
  have Q1:=Y q1
  have Q3:=Y q3
  clear q1 q3 z0
  go_wp2_with fail
  generalize kK:V.setCell (J mb 5) (H (t.left - qty)) = V2 at Z0 vW pW kn HCO HFR xu uc HBX2 hms2 ⊢
  clear kK y5 f5 hwr
  refine dQ 6 (by kernel_rfl) (by kernel_rfl) ?_
  simp only [yT,List.take_zero,yU,List.drop_zero]
  repeat still_step
  refine wpStill_nil ?_
  go_wp2_with fail
  refine (takeFrom_any mb 0 B next uK qty vq l k ⟨uK,uT,xw,xH,uS,qc⟩ _ ((U HCO 0 (by omega)).trans (((U Q3).cell 0 (by omega)).trans (U hM 0 _ rfl))) ((U HCO 1 (by omega)).trans (((U Q3).cell 1 (by omega)).trans (U hM 1 _ rfl))) ((U HFR 1).trans (((U Q3).frozen 1).trans (by have:=(U hT9 1 (by omega)).2; rwa [Nat.zero_add] at this))) (U vW) qF hms2 uc hn (U HK) (U HC) (by have:=U HQ; omega) (by have:=U HQ; show qty ≤ xH; omega) qb).mono ?_
  rintro e w9 ⟨vw,rfl,kW,ho9,ht9⟩
  have pT:=Y kW
  have HO9:=Y ho9
  have HT9:=Y ht9
  clear kW ho9 ht9
  go_wp2_with fail
  go_end0
  have xq:∀ j,j ≠ 1→j ≠ 5→j ≠ 8→w9.cell? (J mb j) = W0.cell? (J mb j):=fun j Q h5 h8=>((U HT9).cell j (by omega)).trans ((U HCO j h5).trans ((U Q3).cell j (by omega)))
  have vB:w9.rangeAt mb 0 [H next,vw,H t.id,H t.side,H t.ticks,H (t.left - qty),H t.life,yk t.tag,v17]:=by
   intro j u R
   rw [Nat.zero_add]
   match j,R with
   | 0,R=>cases R; exact (xq 0 (by omega) (by omega) (by omega)).trans (U hM 0 _ rfl)
   | 1,R=>cases R; exact U pT
   | 2,R=>cases R; exact (xq 2 (by omega) (by omega) (by omega)).trans (U hM 2 _ rfl)
   | 3,R=>cases R; exact (xq 3 (by omega) (by omega) (by omega)).trans (U hM 3 _ rfl)
   | 4,R=>cases R; exact (xq 4 (by omega) (by omega) (by omega)).trans (U hM 4 _ rfl)
   | 5,R=>cases R; exact ((U HT9).cell 5 (by omega)).trans (U kn)
   | 6,R=>cases R; exact (xq 6 (by omega) (by omega) (by omega)).trans (U hM 6 _ rfl)
   | 7,R=>cases R; exact (xq 7 (by omega) (by omega) (by omega)).trans (U hM 7 _ rfl)
   | 8,R=>cases R; exact ((U HT9).cell 8 (by omega)).trans ((U HCO 8 (by omega)).trans (U Q1))
   | j + 9,R=>simp at R
  refine ⟨vw,v17,rfl,⟨vB,fun j R=>⟨?_,?_⟩,U HO9,aV (U pW) (U HT9) hn17 (zA (U pW) (U vW) (by decide)),by obtain ⟨xr,hc⟩:=U HBX2; exact (U HT9).kind _ _ _ hc,yN uc (U HT9).size⟩,zi (U xu) (cw (U HT9) uc (fun g hg=>((U vW).lt g hg).1))⟩
  ·match j,R with
   | 0,_=>exact Option.isSome_iff_exists.2 ⟨_,vB 0 _ rfl⟩
   | 1,_=>exact Option.isSome_iff_exists.2 ⟨_,vB 1 _ rfl⟩
   | 2,_=>exact Option.isSome_iff_exists.2 ⟨_,vB 2 _ rfl⟩
   | 3,_=>exact Option.isSome_iff_exists.2 ⟨_,vB 3 _ rfl⟩
   | 4,_=>exact Option.isSome_iff_exists.2 ⟨_,vB 4 _ rfl⟩
   | 5,_=>exact Option.isSome_iff_exists.2 ⟨_,vB 5 _ rfl⟩
   | 6,_=>exact Option.isSome_iff_exists.2 ⟨_,vB 6 _ rfl⟩
   | 7,_=>exact Option.isSome_iff_exists.2 ⟨_,vB 7 _ rfl⟩
   | 8,_=>exact Option.isSome_iff_exists.2 ⟨_,vB 8 _ rfl⟩
   | j + 9,h=>omega
  ·have:=(U hT9 j R).2
   rw [Nat.zero_add] at this ⊢
   exact ((U HT9).frozen j).trans ((U HFR j).trans (((U Q3).frozen j).trans this))
 ·rintro x xm V i op ⟨f,rfl,ju,hD⟩ xo hx Z xy D
  have uj:=Y ju
  have HD:=Y hD
  have n17':i < 17→0 < i→¬ x[17]? = some true:=fun xK jy kI=>by
   have h16:=yf xo 17 rfl kI 16 rfl
   have h4:=yf xo 17 rfl kI 4 rfl
   have vx:=yf xo 16 rfl h16 15 rfl
   have h9:=yf xo 15 rfl vx 9 rfl
   have uX:=yf xo 15 rfl vx 11 rfl
   have qy:=yf xo 15 rfl vx 12 rfl
   have ji:=yf xo 15 rfl vx 14 rfl
   have h8:=yf xo 9 rfl h9 8 rfl
   have h7:=yf xo 8 rfl h8 7 rfl
   have h6:=yf xo 7 rfl h7 6 rfl
   have h5:=yf xo 6 rfl h6 5 rfl
   have vS:=yf xo 11 rfl uX 10 rfl
   have jr:=yf xo 14 rfl ji 13 rfl
   have h3:=yf xo 4 rfl h4 3 rfl
   have N:=yf xo 3 rfl h3 2 rfl
   have Q:=yf xo 2 rfl N 1 rfl
   have uk:∀ j,0 < j→j < 17→x[j]? = some true:=fun j jd R=>by
    rcases (by omega:j = 1 ∨ j = 2 ∨ j = 3 ∨ j = 4 ∨ j = 5 ∨ j = 6 ∨ j = 7 ∨ j = 8 ∨ j = 9 ∨ j = 10 ∨ j = 11 ∨ j = 12 ∨ j = 13 ∨ j = 14 ∨ j = 15 ∨ j = 16) with rfl | rfl | rfl | rfl | rfl | rfl | rfl | rfl | rfl | rfl | rfl | rfl | rfl | rfl | rfl | rfl <;> assumption
   rw [uk i jy xK] at xy; cases xy
  have n20':i < 20→¬ x[20]? = some true:=fun xK h20=>by
   have h19:=yf xo 20 rfl h20 19 rfl
   have kI:=yf xo 20 rfl h20 17 rfl
   have ki:=yf xo 19 rfl h19 18 rfl
   have h16:=yf xo 17 rfl kI 16 rfl
   have h4:=yf xo 17 rfl kI 4 rfl
   have vx:=yf xo 16 rfl h16 15 rfl
   have h9:=yf xo 15 rfl vx 9 rfl
   have uX:=yf xo 15 rfl vx 11 rfl
   have qy:=yf xo 15 rfl vx 12 rfl
   have ji:=yf xo 15 rfl vx 14 rfl
   have h8:=yf xo 9 rfl h9 8 rfl
   have h7:=yf xo 8 rfl h8 7 rfl
   have h6:=yf xo 7 rfl h7 6 rfl
   have h5:=yf xo 6 rfl h6 5 rfl
   have vS:=yf xo 11 rfl uX 10 rfl
   have jr:=yf xo 14 rfl ji 13 rfl
   have h3:=yf xo 4 rfl h4 3 rfl
   have N:=yf xo 3 rfl h3 2 rfl
   have Q:=yf xo 2 rfl N 1 rfl
   have h0:=yf xo 18 rfl ki 0 rfl
   have uk:∀ j,j < 20→x[j]? = some true:=fun j R=>by
    rcases (by omega:j = 0 ∨ j = 1 ∨ j = 2 ∨ j = 3 ∨ j = 4 ∨ j = 5 ∨ j = 6 ∨ j = 7 ∨ j = 8 ∨ j = 9 ∨ j = 10 ∨ j = 11 ∨ j = 12 ∨ j = 13 ∨ j = 14 ∨ j = 15 ∨ j = 16 ∨ j = 17 ∨ j = 18 ∨ j = 19) with rfl | rfl | rfl | rfl | rfl | rfl | rfl | rfl | rfl | rfl | rfl | rfl | rfl | rfl | rfl | rfl | rfl | rfl | rfl | rfl <;> assumption
   rw [uk i xK] at xy; cases xy
  have xn:∀ (b o:Nat) (u:Value),W0.cell? (J b o) = some u→¬ x[17]? = some true→V.cell? (J b o) = some u:=fun b o u hu hn17=>((ju hn17).cell (p:=(J b o)) (yK W0 _ hu)).trans hu
  clear ju xo
  match i,Z with
  | 0,Z | 1,Z | 5,Z =>
   obtain rfl:=ya Z
   clear D hD
   rw [if_pos (by rfl)];unfold Oper.wp;go_simp
   exact ⟨upd f _ (I mb 0),by simp [upd],zv (U HD) (by decide) (by decide) (fun _ _ h=>h) (U uj) rfl⟩
  | 2,Z =>
   obtain rfl:=ya Z
   have g:f 1 = I mb 0:=hD 1 (ye D 1 rfl)
   clear D hD
   rw [if_pos (by rfl)];unfold Oper.wp;go_simp
   exact ⟨upd f 2 (I mb 0),by simp [upd,g],zv (U HD) (by decide) (by decide) (fun _ _ h=>h) (U uj) rfl⟩
  | 3,Z =>
   obtain rfl:=ya Z
   have g:f 2 = I mb 0:=hD 2 (ye D 2 rfl)
   clear D hD
   rw [if_pos (by rfl)];unfold Oper.wp;go_simp
   exact ⟨upd f 3 (I mb 8),by simp [upd,g],zv (U HD) (by decide) (by decide) (fun _ _ h=>h) (U uj) rfl⟩
  | 4,Z =>
   obtain rfl:=ya Z
   have g:f 3 = I mb 8:=hD 3 (ye D 3 rfl)
   have n17:=n17' (by omega) (by omega)
   have y8:=xn mb 8 _ (U af) n17
   clear D hD
   rw [if_pos (by rfl)];unfold Oper.wp;go_simp
   exact ⟨upd f 4 (vt),by simp [upd,g],zv (U HD) (by decide) (by decide) (fun _ _ h=>h) (U uj) rfl⟩
  | 6,Z =>
   obtain rfl:=ya Z
   have g:f 5 = I mb 0:=hD 5 (ye D 5 rfl)
   clear D hD
   rw [if_pos (by rfl)];unfold Oper.wp;go_simp
   exact ⟨upd f 6 (I mb 0),by simp [upd,g],zv (U HD) (by decide) (by decide) (fun _ _ h=>h) (U uj) rfl⟩
  | 7,Z =>
   obtain rfl:=ya Z
   have g:f 6 = I mb 0:=hD 6 (ye D 6 rfl)
   clear D hD
   rw [if_pos (by rfl)];unfold Oper.wp;go_simp
   exact ⟨upd f 7 (I mb 2),by simp [upd,g],zv (U HD) (by decide) (by decide) (fun _ _ h=>h) (U uj) rfl⟩
  | 8,Z =>
   obtain rfl:=ya Z
   have g:f 7 = I mb 2:=hD 7 (ye D 7 rfl)
   clear D hD
   rw [if_pos (by rfl)];unfold Oper.wp;go_simp
   exact ⟨upd f 8 (I mb 2),by simp [upd,g],zv (U HD) (by decide) (by decide) (fun _ _ h=>h) (U uj) rfl⟩
  | 9,Z =>
   obtain rfl:=ya Z
   have g:f 8 = I mb 2:=hD 8 (ye D 8 rfl)
   have n17:=n17' (by omega) (by omega)
   have y2:=xn mb 2 _ (U vD) n17
   clear D hD
   rw [if_pos (by rfl)];unfold Oper.wp;go_simp
   exact ⟨upd f 9 (H t.id),by simp [upd,g],zv (U HD) (by decide) (by decide) (fun _ _ h=>h) (U uj) rfl⟩
  | 10,Z =>
   obtain rfl:=ya Z
   clear D hD
   rw [if_pos (by rfl)];unfold Oper.wp;go_simp
   exact ⟨upd f 10 (yp w 0),by simp [upd],zv (U HD) (by decide) (by decide) (fun _ _ h=>h) (U uj) rfl⟩
  | 11,Z =>
   obtain rfl:=ya Z
   have g:f 10 = yp w 0:=hD 10 (ye D 10 rfl)
   have n17:=n17' (by omega) (by omega)
   have z0:=xn w.heap.size 0 _ (U HF0) n17
   clear D hD
   rw [if_pos (by rfl)];unfold Oper.wp;go_simp
   exact ⟨upd f 11 (H uK),by simp [upd,g],zv (U HD) (by decide) (by decide) (fun _ _ h=>h) (U uj) rfl⟩
  | 12,Z =>
   obtain rfl:=ya Z
   clear D hD
   rw [if_pos (by rfl)];unfold Oper.wp;go_simp
   exact ⟨upd f 12 (H qty),by simp [upd],zv (U HD) (by decide) (by decide) (fun _ _ h=>h) (U uj) rfl⟩
  | 13,Z =>
   obtain rfl:=ya Z
   clear D hD
   rw [if_pos (by rfl)];unfold Oper.wp;go_simp
   exact ⟨upd f 13 (yp w 2),by simp [upd],zv (U HD) (by decide) (by decide) (fun _ _ h=>h) (U uj) rfl⟩
  | 14,Z =>
   obtain rfl:=ya Z
   have g:f 13 = yp w 2:=hD 13 (ye D 13 rfl)
   have n17:=n17' (by omega) (by omega)
   have z2:=xn w.heap.size 2 _ (U HF2) n17
   clear D hD
   rw [if_pos (by rfl)];unfold Oper.wp;go_simp
   exact ⟨upd f 14 (H xw),by simp [upd,g],zv (U HD) (by decide) (by decide) (fun _ _ h=>h) (U uj) rfl⟩
  | 15,Z =>
   obtain rfl:=ya Z
   have g9:f 9 = H t.id:=hD 9 (ye D 9 rfl)
   have vF:f 11 = H uK:=hD 11 (ye D 11 rfl)
   have ua:f 12 = H qty:=hD 12 (ye D 12 rfl)
   have kw:f 14 = H xw:=hD 14 (ye D 14 rfl)
   clear D hD
   rw [if_pos (by rfl)];unfold Oper.wp;go_simp
   exact ⟨upd f 15 (evV (trE t.id uK qty xw)),by simp [upd,g9,vF,ua,kw,evV,trE,zCm],zv (U HD) (by decide) (by decide) (fun _ _ h=>h) (U uj) rfl⟩
  | 16,Z =>
   obtain rfl:=ya Z
   have g:f 15 = evV (trE t.id uK qty xw):=hD 15 (ye D 15 rfl)
   have n17:=n17' (by omega) (by omega)
   have xV:=U uj n17
   clear D hD
   unfold evV trE at g
   rw [if_pos (by rfl)];unfold Oper.wp;go_simp
   refine ⟨upd f 16 (.slice (some (yq V 0)) 1 1),by simp [upd,g],zv (U HD) (by decide) (by decide) (dt_alloc n17) (fun _=>xV.alloc xV.size _) ⟨V.heap.size,rfl,fun _=>?_⟩⟩
   exact cellsT V (trE t.id uK qty xw) 41
  | 17,Z =>
   obtain rfl:=ya Z
   have g4:f 4 = vt:=hD 4 (ye D 4 rfl)
   obtain ⟨s,g16,om⟩:=hD 16 (ye D 16 rfl)
   have n17:¬ x[17]? = some true:=by rw [xy]; simp
   have n20:=n20' (by omega)
   have xV:=U uj n17
   have uV:ERow V B vt ts:=zG (U vL) xV
   rw [if_pos (by rfl)]
   refine wp_append_own V (.tmp 17) (.tmp 29) 39 rfl B 41 i0 _ 14 120 Tryz.underlying39 uE uA uC uM rfl (by decide) vt ts.length (ts.flatMap Ev.vs) g4 uV (J s 0) 1 1 (trE t.id uK qty xw).vs g16 rfl (om n17) (one_ev _) (by unfold maxLen; omega) (by omega) (by have:=xV.size; omega) ?_
   intro v' w' xL ub _
   obtain ⟨ga,gc,rfl⟩:=dt xL (by omega)
   refine ⟨upd f 17 (.slice (some (J ga 0)) (ts.length + 1) gc),rfl,rt_one (by decide) (U HD) xy n20 (fun j v R h=>dt_one j v R h) ⟨some (J ga 0),gc,rfl,trivial,fun _=>⟨?_,?_⟩,fun h=>h.elim⟩⟩
   ·show World.ownsRow _ _ _ _ _ (ts ++ [trE t.id uK qty xw]).length _
    rw [yP,List.flatMap_append]; simpa using xL
   ·exact (zX xV tg).trans ub
  | 18,Z =>
   obtain rfl:=ya Z
   have g:f 0 = I mb 0:=hD 0 (ye D 0 rfl)
   clear D hD
   rw [if_pos (by rfl)];unfold Oper.wp;go_simp
   exact ⟨upd f 18 (I mb 0),by simp [upd,g],zv (U HD) (by decide) (by decide) (fun _ _ h=>h) (U uj) rfl⟩
  | 19,Z =>
   obtain rfl:=ya Z
   have g:f 18 = I mb 0:=hD 18 (ye D 18 rfl)
   clear D hD
   rw [if_pos (by rfl)];unfold Oper.wp;go_simp
   exact ⟨upd f 19 (I mb 8),by simp [upd,g],zv (U HD) (by decide) (by decide) (fun _ _ h=>h) (U uj) rfl⟩
  | 20,Z =>
   obtain rfl:=ya Z
   have g19:f 19 = I mb 8:=hD 19 (ye D 19 rfl)
   have k17:x[17]? = some true:=D ⟨17,.data⟩ (by simp) rfl
   have n20:¬ x[20]? = some true:=by rw [xy]; simp
   obtain ⟨ga,gc,g17,-,hfa,-⟩:=hD 17 k17
   obtain ⟨jW,ub⟩:=hfa n20
   have qQ:some mb ≠ vt.ownBlock:=hnt
   have y8:=ub.cell (U af) qQ
   have f8:V.frozen? (J mb 8) = false:=(World.frozen?_of_block (a:=(J mb 8)) (ub.block mb (by omega) qQ)).trans (U HF8)
   have jM:=Y (g17 ▸ jW)
   have pj:Hid (∃ xr,V.heap[mb]? = some (.cells xr 105 (0,0))):=by obtain ⟨xr,hc⟩:=U uB; exact ⟨xr,(ub.block mb (by omega) qQ).trans hc⟩
   have oz:=Y ub
   clear D hD jW ub hfa
   rw [if_pos (by rfl)];unfold Oper.wp;go_simp
   refine ⟨upd f 20 M,by simp [upd,g19,g17],rt_two (by decide) (U HD) k17 xy (fun j R hxj h=>dt_two j R h (fun hj17=>?_)) trivial⟩
   subst hj17
   obtain ⟨-,-,-,-,-,-⟩:=h
   refine ⟨ga,gc,g17,trivial,fun h=>absurd trivial h,fun _=>?_⟩
   rw [g17]
   refine ⟨yM _ _ _ y8,zr (U jM) (zj (U jM) (U pj) (by decide)) 8 _,?_⟩
   exact bN (br (U oz) (by omega) qQ) (cP (o:=7) _ _)
  | i + 21,Z=>simp at Z
end Go.Proofs.YtdliebbfcmdmaaaGreat
