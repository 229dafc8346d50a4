/-
  A trade with the front, by the program: proved by walking the method.
-/
import Derived.Test.YtbakanofkghmiaaGreatUj14
set_option linter.unusedVariables false
set_option maxHeartbeats 6400000
set_option maxRecDepth 100000
namespace Go.Proofs.YtbakanofkghmiaaGreat
open Go.RowKit
structure MatS (mb B:Nat) (W:World) (next:Int) (vq:Value) (l:List Od) (t:Od) (vt:Value) (ts:List Ev):Prop where
 cells:W.rangeAt mb 0 [.int .i64 next,vq,.int .i64 t.id,.int .i64 t.side,.int .i64 t.ticks,.int .i64 t.left,.int .i64 t.life,.string t.tag,vt]
 there:W.there mb 0 9
 orow:ORow W B vq l
 erow:ERow W B vt ts
 box:∃ cur,W.heap[mb]? = some (.cells cur 157 (0,0))
 le:B ≤ W.heap.size
structure KeptBut (mb B:Nat) (w w':World):Prop where
 os:w'.os = w.os
 tape:w'.tape = w.tape
 output:w'.output = w.output
 size:w.heap.size ≤ w'.heap.size
 block:∀ k,k < B→k ≠ mb→w'.heap[k]? = w.heap[k]?
theorem zk {mb B:Nat} {w w1 w2:World} (G:KeptBut mb B w w1) (D:KeptBut mb B w1 w2):KeptBut mb B w w2 :=
 ⟨D.os.trans G.os,D.tape.trans G.tape,D.output.trans G.output,yL G.size D.size,fun k hk hm=>(D.block k hk hm).trans (G.block k hk hm)⟩
theorem zB {mb B C:Nat} {w w1:World} (h:Below C w w1) (hC:B ≤ C):KeptBut mb B w w1 :=
 ⟨h.os,h.tape,h.output,h.size,fun k hk _=>h.block k (by omega)⟩
theorem cD {mb B o:Nat} {h1:Option Nat} {w w1:World} (h:TookAt mb o h1 w w1) (hB:B ≤ w.heap.size) (hG:∀ g,h1 = some g→B ≤ g):KeptBut mb B w w1 :=
 ⟨h.os,h.tape,h.output,h.size,fun k hk hm=>h.block k (by omega) hm (fun e=>by have:=hG k e.symm; omega)⟩
theorem cH {mb B:Nat} (w:World) (o:Nat) (u:Value):KeptBut mb B w (w.setCell (J mb o) u) :=
 ⟨rfl,rfl,rfl,by simp [World.setCell],fun k _ hm=>yQ _ _ _ _ hm⟩
theorem kept_drew {mb B:Nat} {w w1:World} (h:KeptBut mb B w w1):KeptBut mb B w w1.drew:=⟨h.os,h.tape,h.output,h.size,h.block⟩
theorem aW {p o B e sz n:Nat} {h1:Option Nat} {v:Value} {xs:List Value} {w w':World} (h:w.ownsRow B e sz v n xs) (ht:TookAt p o h1 w w') (hp:some p ≠ v.ownBlock) (xA:v.ownBlock = none ∨ v.ownBlock ≠ h1):w'.ownsRow B e sz v n xs:=by
 refine ⟨h.1,?_⟩
 rcases h.2 with hn | ⟨g,A,xp,rfl,O,jV,rest⟩
 ·exact .inl hn
 ·refine .inr ⟨g,A,xp,rfl,O,?_,rest⟩
  rw [ht.block g (yW.1 jV).1 (by simpa [Value.ownBlock] using Ne.symm hp) (by simpa [Value.ownBlock] using xA)]
  exact jV
theorem zl {B e sz n b:Nat} {T:TypeId} {v:Value} {xs:List Value} {w:World} (h:w.ownsRow B e sz v n xs) (O:∃ xp,w.heap[b]? = some (.cells xp T (0,0))) (xA:T ≠ e):some b ≠ v.ownBlock:=by
 obtain ⟨cb,O⟩:=O
 rcases h.2 with ⟨rfl,_⟩ | ⟨g,A,xp,rfl,_,jV,rest⟩
 ·simp [Value.ownBlock]
 ·intro e0
  simp only [Value.ownBlock,Option.some.injEq] at e0
  subst e0
  rw [O] at jV
  simp only [Option.some.injEq,Obj.cells.injEq] at jV
  exact xA jV.2.1
theorem MatS.nq {mb B:Nat} {W:World} {next:Int} {vq:Value} {l:List Od} {t:Od} {vt:Value} {ts:List Ev} (h:MatS mb B W next vq l t vt ts):some mb ≠ vq.ownBlock:=zl h.orow h.box (by decide)
theorem MatS.nt {mb B:Nat} {W:World} {next:Int} {vq:Value} {l:List Od} {t:Od} {vt:Value} {ts:List Ev} (h:MatS mb B W next vq l t vt ts):some mb ≠ vt.ownBlock:=zl h.erow h.box (by decide)
theorem MatS.lt {mb B:Nat} {W:World} {next:Int} {vq:Value} {l:List Od} {t:Od} {vt:Value} {ts:List Ev} (h:MatS mb B W next vq l t vt ts):mb < W.heap.size:=by
 obtain ⟨xp,h⟩:=h.box
 exact (yW.1 h).1
theorem zC {B B' e e' sz sz' n n':Nat} {v v':Value} {xs xs':List Value} {w:World} (h:w.ownsRow B e sz v n xs) (h':w.ownsRow B' e' sz' v' n' xs') (xA:e ≠ e'):v.ownBlock = none ∨ v.ownBlock ≠ v'.ownBlock:=by
 rcases h.2 with ⟨rfl,_⟩ | ⟨g,A,xp,rfl,O,jV,rest⟩
 ·exact .inl rfl
 ·refine .inr ?_
  rcases h'.2 with ⟨rfl,_⟩ | ⟨g',pq,cur',rfl,ko,hgg',rest'⟩
  ·simp [Value.ownBlock]
  ·intro e0
   simp only [Value.ownBlock,Option.some.injEq] at e0
   subst e0
   rw [jV] at hgg'
   simp only [Option.some.injEq,Obj.cells.injEq] at hgg'
   exact xA hgg'.2.1
theorem trade_any (mb B:Nat) (next:Int) (vq:Value) (l:List Od) (t:Od) (vt:Value) (ts:List Ev) (o:Od) (k:Nat) (w:World) (h:MatS mb B w next vq l t vt ts)
  (hk:plc l o.id = k) (hc:l[k]? = some o) (hn:l.length ≤ 1000) (hts:ts.length ≤ 1000) (ht0:0 ≤ t.left) (ht1:t.left ≤ 1000000) (ho0:0 ≤ o.left) (vZ:o.left ≤ 1000000) (qty:Int) (hq:qty = min t.left o.left) :
  Calls Tryz.prog 151 #[I mb 0,.agg (yu o.id o.side o.ticks o.left o.life o.tag).toArray] w fun e w' =>
   ∃ vw vt',e = yl (.tuple #[])∧MatS mb B w' next vw (aB l k o qty) { t with left:=t.left - qty } vt' (ts ++ [trE t.id o.id qty o.ticks])∧KeptBut mb B w w':=by
 obtain ⟨uL,uT,xv,xF,uS,qa⟩:=o
 simp only at *
 have HM:=Y h
 have qB:=h.lt
 have px:=h.le
 have qH:=h.nq
 have hnt:=h.nt
 have xW:Hid (ym w (w.alloc (N (yu uL uT xv xF uS qa).toArray 49))):=eB _ _
 have jB:=zb h.cells (U xW) qB
 have hf1:=zg w (yu uL uT xv xF uS qa) 49
 have y5:=jB 5 _ rfl
 have z3:=hf1 3 _ rfl
 simp only [Nat.zero_add] at y5 z3
 have jE:=Y jB
 have qK:=Y hf1
 have HK:=Y hk
 have HC:=Y hc
 have HQ:=Y hq
 clear h jB hf1 hk hc hq
 go_enter Tryz.func151,Tryz.ntmps151
 go_wp2_with fail
 have qK:Hid (World.rangeAt (w.alloc (N (yu uL uT xv xF uS qa).toArray 49)) w.heap.size 0 (yu uL uT xv xF uS qa)):=U qK
 have z3:World.cell? (w.alloc (N (yu uL uT xv xF uS qa).toArray 49)) (yp w 3) = some (H xF):=z3
 generalize (w.alloc (N (yu uL uT xv xF uS qa).toArray 49)) = W1 at xW jE qK y5 z3 ⊢
 have hmin:∀ W,(Builtin.min_ #[3,3] 3 #[H t.left,H xF]).run Tryz.prog W = .ok (H qty) W:=fun W=>by
  rw [U HQ]
  by_cases jb:t.left ≤ xF
  ·rw [Int.min_eq_left jb]; go_simp; omega
  ·rw [Int.min_eq_right (by omega)]; go_simp
 go_quiet (fail)
 go_wp2_with fail
 have hB0:Hid (ym w (W1.drewN nq)):=cA (U xW) nq
 have hM:Hid ((W1.drewN nq).rangeAt mb 0 [H next,vq,H t.id,H t.side,H t.ticks,H t.left,H t.life,yj t.tag,vt]):=U jE
 have hFF:Hid ((W1.drewN nq).rangeAt w.heap.size 0 (yu uL uT xv xF uS qa)):=U qK
 have hT9:Hid ((W1.drewN nq).there mb 0 9):=ze (U HM).there (U hB0) qB
 have vM:Hid (ERow (W1.drewN nq) B vt ts):=zI (U HM).erow (U hB0)
 have uy:Hid (∃ xp,(W1.drewN nq).heap[mb]? = some (.cells xp 157 (0,0))):=by obtain ⟨xp,hc⟩:=(U HM).box; exact ⟨xp,((U hB0).block mb qB).trans hc⟩
 have jP:Hid (ORow (W1.drewN nq) B vq l):=zj (U HM).orow (U hB0)
 have xz:w.heap.size < (W1.drewN nq).heap.size:=yI (W1.drewN nq) (yp w (0 + 0)) (U hFF 0 _ rfl)
 clear y5 z3 hmin jE qK xW
 generalize W1.drewN nq = W0 at hB0 hM hFF hT9 vM jP uy xz ⊢
 have pW:Hid (W0.cell? (J mb 8) = some vt):=U hM 8 _ rfl
 have vx:Hid (W0.cell? (J mb 2) = some (H t.id)):=U hM 2 _ rfl
 have HF0:Hid (W0.cell? (yp w 0) = some (H uL)):=U hFF 0 _ rfl
 have HF2:Hid (W0.cell? (yp w 2) = some (H xv)):=U hFF 2 _ rfl
 have HF8:Hid (W0.frozen? (J mb 8) = false):=by have:=(U hT9 8 (by omega)).2; rwa [Nat.zero_add] at this
 have hmw0:mb < W0.heap.size:=by omega
 have hBW0:B ≤ W0.heap.size:=by omega
 obtain ⟨i0,uE,uF,uK,uV⟩:=info_parts infoEv
 refine zi (RT (fun V=>ym W0 V) (fun f=>{ tmps:=#[I mb 0,.agg (yu uL uT xv xF uS qa).toArray,M,yn w 0,H qty,I mb 0,I mb 0,I mb 2,I mb 5,H t.left,yn w 3,H xF,H qty,f 0,f 1,f 2,f 3,f 4,f 5,f 6,f 7,f 8,f 9,f 10,f 11,f 12,f 13,f 14,f 15,f 16,f 17,f 18,f 19,M,M,M,M,M,M,M,M,M,M,M,M,M,M,M,M,M],defers:=[] }) 17 20 (DT mb w.heap.size B W0 vt ts t.id uL qty xv)) (by kernel_rfl) ?_ ?_ ?_
 ·exact ⟨fun _=>M,rfl,fun _=>⟨rfl,rfl,rfl,Nat.le_refl _,fun _ _=>rfl⟩,fun j K=>by rw [yG] at K; split at K <;> simp at K⟩
 ·rintro x xj V ⟨f,rfl,-,hD⟩ hx xL
  have xn:=zW xL hx (acyc _ (by kernel_rfl))
  have k17:x[17]? = some true:=xn 17 (by simp)
  have k20:x[20]? = some true:=xn 20 (by simp)
  obtain ⟨va,vc,-,-,-,vj⟩:=hD 17 k17
  obtain ⟨q1,q2,q3⟩:=vj k20
  have vr:Hid (_∧_∧_):=⟨q1,q2,q3⟩
  clear hD xn xL hx k17 k20 vj q1 q2 q3
  dsimp only
  generalize f 17 = v17 at vr ⊢
  generalize f 0 = a0,f 1 = a1,f 2 = a2,f 3 = a3,f 4 = a4,f 5 = a5,f 6 = a6,f 7 = a7,f 8 = a8,f 9 = a9,f 10 = a10,f 11 = a11,f 12 = a12,f 13 = a13,f 14 = a14,f 15 = a15,f 16 = a16,f 18 = a18,f 19 = a19
  obtain ⟨q1,q2,q3⟩:=U vr
  have hvtB:∀ g,vt.ownBlock = some g→B ≤ g∧g < w.heap.size:=(U HM).erow.lt
  have z0:V.cell? (yp w 0) = some (H uL):=(yO (a:=(yp w 0)) (q3.block w.heap.size xz (by omega) (fun e=>by have:=hvtB _ e.symm; omega))).trans (U HF0)
  have y5:V.cell? (J mb 5) = some (H t.left):=(q3.cell 5 (by omega)).trans (U hM 5 _ rfl)
  have f5:V.frozen? (J mb 5) = false:=(q3.frozen 5).trans (by have:=(U hT9 5 (by omega)).2; rwa [Nat.zero_add] at this)
  have hwr:IntKind.i64.wrap (t.left - qty) = t.left - qty:=by rw [IntKind.wrap_i64]; have:=U HQ; omega
  have hbxV:∃ xp,V.heap[mb]? = some (.cells xp 157 (0,0)):=by obtain ⟨xp,hc⟩:=U uy; exact q3.kind _ _ _ hc
  have hn17:some mb ≠ v17.ownBlock:=zl q2 hbxV (by decide)
  have HBX2:Hid (∃ xp,(V.setCell (J mb 5) (H (t.left - qty))).drew.heap[mb]? = some (.cells xp 157 (0,0))):=by obtain ⟨xp,hc⟩:=hbxV; exact zS V mb 5 _ hc
  have hms2:mb < (V.setCell (J mb 5) (H (t.left - qty))).drew.heap.size:=by
   have:=q3.size
   show mb < (V.setCell (J mb 5) (H (t.left - qty))).heap.size
   simp [World.setCell]; omega
  have q4:ORow V B vq l:=aW (U jP) q3 qH (zC (U jP) (U vM) (by decide))
  have Z0:(V.setCell (J mb 5) (H (t.left - qty))).drew.cell? (yp w 0) = some (H uL):=(yJ _ _ _ _ (fun e=>by have:=congrArg Addr.block e; simp at this; omega)).trans z0
  have vV:Hid (ORow (V.setCell (J mb 5) (H (t.left - qty))).drew B vq l):=zw q4 qH 5 _
  have oO:Hid (ERow (V.setCell (J mb 5) (H (t.left - qty))).drew B v17 (ts ++ [trE t.id uL qty xv])):=zw q2 (zl q2 hbxV (by decide)) 5 _
  have HC5:Hid ((V.setCell (J mb 5) (H (t.left - qty))).drew.cell? (J mb 5) = some (H (t.left - qty))):=yK _ _ _ y5
  have HCO:Hid (∀ j,j ≠ 5→(V.setCell (J mb 5) (H (t.left - qty))).drew.cell? (J mb j) = V.cell? (J mb j)):=fun j K=>yJ _ _ _ _ (zQ (fun e=>K e.symm))
  have HFR:Hid (∀ j,(V.setCell (J mb 5) (H (t.left - qty))).drew.frozen? (J mb j) = V.frozen? (J mb j)):=fun j=>World.frozen?_setCell _ _ _ _
  have xq:Hid (KeptBut mb B w (V.setCell (J mb 5) (H (t.left - qty))).drew):=kept_drew (zk (zk (zB (U hB0) (by omega)) (cD q3 (by omega) (fun g hg=>(hvtB g hg).1))) (cH V 5 _))
  have xZ:B ≤ (V.setCell (J mb 5) (H (t.left - qty))).drew.heap.size:=by
   have:=q3.size
   show B ≤ (V.setCell (J mb 5) (H (t.left - qty))).heap.size
   simp [World.setCell]; omega
  clear q2 q4 vr hbxV
  have Q1:=Y q1
  have Q3:=Y q3
  clear q1 q3 z0
  go_wp2_with fail
  generalize kC:V.setCell (J mb 5) (H (t.left - qty)) = V2 at Z0 vV oO HC5 HCO HFR xq xZ HBX2 hms2 ⊢
  clear kC y5 f5 hwr
  refine eg 6 (by kernel_rfl) (by kernel_rfl) ?_
  simp only [yR,List.take_zero,yS,List.drop_zero]
  repeat still_step
  refine wpStill_nil ?_
  go_wp2_with fail
  refine (takeFrom_any mb 0 B next uL qty vq l k ⟨uL,uT,xv,xF,uS,qa⟩ _ ((U HCO 0 (by omega)).trans (((U Q3).cell 0 (by omega)).trans (U hM 0 _ rfl))) ((U HCO 1 (by omega)).trans (((U Q3).cell 1 (by omega)).trans (U hM 1 _ rfl))) ((U HFR 1).trans (((U Q3).frozen 1).trans (by have:=(U hT9 1 (by omega)).2; rwa [Nat.zero_add] at this))) (U vV) qH hms2 xZ hn (U HK) (U HC) (by have:=U HQ; omega) (by have:=U HQ; show qty ≤ xF; omega) vZ).mono ?_
  rintro e w9 ⟨vw,rfl,kQ,ho9,ht9⟩
  have HC1:=Y kQ
  have HO9:=Y ho9
  have HT9:=Y ht9
  clear kQ ho9 ht9
  go_wp2_with fail
  go_end0
  have xo:∀ j,j ≠ 1→j ≠ 5→j ≠ 8→w9.cell? (J mb j) = W0.cell? (J mb j):=fun j G h5 h8=>((U HT9).cell j (by omega)).trans ((U HCO j h5).trans ((U Q3).cell j (by omega)))
  have vE:w9.rangeAt mb 0 [H next,vw,H t.id,H t.side,H t.ticks,H (t.left - qty),H t.life,yj t.tag,v17]:=by
   intro j u K
   rw [Nat.zero_add]
   match j,K with
   | 0,K=>cases K; exact (xo 0 (by omega) (by omega) (by omega)).trans (U hM 0 _ rfl)
   | 1,K=>cases K; exact U HC1
   | 2,K=>cases K; exact (xo 2 (by omega) (by omega) (by omega)).trans (U hM 2 _ rfl)
   | 3,K=>cases K; exact (xo 3 (by omega) (by omega) (by omega)).trans (U hM 3 _ rfl)
   | 4,K=>cases K; exact (xo 4 (by omega) (by omega) (by omega)).trans (U hM 4 _ rfl)
   | 5,K=>cases K; exact ((U HT9).cell 5 (by omega)).trans (U HC5)
   | 6,K=>cases K; exact (xo 6 (by omega) (by omega) (by omega)).trans (U hM 6 _ rfl)
   | 7,K=>cases K; exact (xo 7 (by omega) (by omega) (by omega)).trans (U hM 7 _ rfl)
   | 8,K=>cases K; exact ((U HT9).cell 8 (by omega)).trans ((U HCO 8 (by omega)).trans (U Q1))
   | j + 9,K=>simp at K
  refine ⟨vw,v17,rfl,⟨vE,fun j K=>⟨?_,?_⟩,U HO9,aW (U oO) (U HT9) hn17 (zC (U oO) (U vV) (by decide)),by obtain ⟨xp,hc⟩:=U HBX2; exact (U HT9).kind _ _ _ hc,yL xZ (U HT9).size⟩,zk (U xq) (cD (U HT9) xZ (fun g hg=>((U vV).lt g hg).1))⟩
  ·match j,K with
   | 0,_=>exact Option.isSome_iff_exists.2 ⟨_,vE 0 _ rfl⟩
   | 1,_=>exact Option.isSome_iff_exists.2 ⟨_,vE 1 _ rfl⟩
   | 2,_=>exact Option.isSome_iff_exists.2 ⟨_,vE 2 _ rfl⟩
   | 3,_=>exact Option.isSome_iff_exists.2 ⟨_,vE 3 _ rfl⟩
   | 4,_=>exact Option.isSome_iff_exists.2 ⟨_,vE 4 _ rfl⟩
   | 5,_=>exact Option.isSome_iff_exists.2 ⟨_,vE 5 _ rfl⟩
   | 6,_=>exact Option.isSome_iff_exists.2 ⟨_,vE 6 _ rfl⟩
   | 7,_=>exact Option.isSome_iff_exists.2 ⟨_,vE 7 _ rfl⟩
   | 8,_=>exact Option.isSome_iff_exists.2 ⟨_,vE 8 _ rfl⟩
   | j + 9,h=>omega
  ·have:=(U hT9 j K).2
   rw [Nat.zero_add] at this ⊢
   exact ((U HT9).frozen j).trans ((U HFR j).trans (((U Q3).frozen j).trans this))
 ·rintro x xj V i op ⟨f,rfl,jy,hD⟩ X hx Z xu Q
  have ud:=Y jy
  have HD:=Y hD
  have n17':i < 17→0 < i→¬ x[17]? = some true:=fun xI qm kA=>by
   have h16:=ye X 17 rfl kA 16 rfl
   have h4:=ye X 17 rfl kA 4 rfl
   have vy:=ye X 16 rfl h16 15 rfl
   have h9:=ye X 15 rfl vy 9 rfl
   have uY:=ye X 15 rfl vy 11 rfl
   have qA:=ye X 15 rfl vy 12 rfl
   have jk:=ye X 15 rfl vy 14 rfl
   have h8:=ye X 9 rfl h9 8 rfl
   have h7:=ye X 8 rfl h8 7 rfl
   have h6:=ye X 7 rfl h7 6 rfl
   have h5:=ye X 6 rfl h6 5 rfl
   have vT:=ye X 11 rfl uY 10 rfl
   have jS:=ye X 14 rfl jk 13 rfl
   have h3:=ye X 4 rfl h4 3 rfl
   have D:=ye X 3 rfl h3 2 rfl
   have G:=ye X 2 rfl D 1 rfl
   have uk:∀ j,0 < j→j < 17→x[j]? = some true:=fun j jz K=>by
    rcases (by omega:j = 1 ∨ j = 2 ∨ j = 3 ∨ j = 4 ∨ j = 5 ∨ j = 6 ∨ j = 7 ∨ j = 8 ∨ j = 9 ∨ j = 10 ∨ j = 11 ∨ j = 12 ∨ j = 13 ∨ j = 14 ∨ j = 15 ∨ j = 16) with rfl | rfl | rfl | rfl | rfl | rfl | rfl | rfl | rfl | rfl | rfl | rfl | rfl | rfl | rfl | rfl <;> assumption
   rw [uk i qm xI] at xu; cases xu
  have n20':i < 20→¬ x[20]? = some true:=fun xI h20=>by
   have h19:=ye X 20 rfl h20 19 rfl
   have kA:=ye X 20 rfl h20 17 rfl
   have kc:=ye X 19 rfl h19 18 rfl
   have h16:=ye X 17 rfl kA 16 rfl
   have h4:=ye X 17 rfl kA 4 rfl
   have vy:=ye X 16 rfl h16 15 rfl
   have h9:=ye X 15 rfl vy 9 rfl
   have uY:=ye X 15 rfl vy 11 rfl
   have qA:=ye X 15 rfl vy 12 rfl
   have jk:=ye X 15 rfl vy 14 rfl
   have h8:=ye X 9 rfl h9 8 rfl
   have h7:=ye X 8 rfl h8 7 rfl
   have h6:=ye X 7 rfl h7 6 rfl
   have h5:=ye X 6 rfl h6 5 rfl
   have vT:=ye X 11 rfl uY 10 rfl
   have jS:=ye X 14 rfl jk 13 rfl
   have h3:=ye X 4 rfl h4 3 rfl
   have D:=ye X 3 rfl h3 2 rfl
   have G:=ye X 2 rfl D 1 rfl
   have h0:=ye X 18 rfl kc 0 rfl
   have uk:∀ j,j < 20→x[j]? = some true:=fun j K=>by
    rcases (by omega:j = 0 ∨ j = 1 ∨ j = 2 ∨ j = 3 ∨ j = 4 ∨ j = 5 ∨ j = 6 ∨ j = 7 ∨ j = 8 ∨ j = 9 ∨ j = 10 ∨ j = 11 ∨ j = 12 ∨ j = 13 ∨ j = 14 ∨ j = 15 ∨ j = 16 ∨ j = 17 ∨ j = 18 ∨ j = 19) with rfl | rfl | rfl | rfl | rfl | rfl | rfl | rfl | rfl | rfl | rfl | rfl | rfl | rfl | rfl | rfl | rfl | rfl | rfl | rfl <;> assumption
   rw [uk i xI] at xu; cases xu
  have xk:∀ (b o:Nat) (u:Value),W0.cell? (J b o) = some u→¬ x[17]? = some true→V.cell? (J b o) = some u:=fun b o u hu hn17=>((jy hn17).cell (p:=(J b o)) (yI W0 _ hu)).trans hu
  clear jy X
  match i,Z with
  | 0,Z | 1,Z | 5,Z =>
   obtain rfl:=ya Z
   clear Q hD
   rw [if_pos (by rfl)];unfold Oper.wp;go_simp
   exact ⟨upd f _ (I mb 0),by simp [upd],zx (U HD) (by decide) (by decide) (fun _ _ h=>h) (U ud) rfl⟩
  | 2,Z =>
   obtain rfl:=ya Z
   have g:f 1 = I mb 0:=hD 1 (yd Q 1 rfl)
   clear Q hD
   rw [if_pos (by rfl)];unfold Oper.wp;go_simp
   exact ⟨upd f 2 (I mb 0),by simp [upd,g],zx (U HD) (by decide) (by decide) (fun _ _ h=>h) (U ud) rfl⟩
  | 3,Z =>
   obtain rfl:=ya Z
   have g:f 2 = I mb 0:=hD 2 (yd Q 2 rfl)
   clear Q hD
   rw [if_pos (by rfl)];unfold Oper.wp;go_simp
   exact ⟨upd f 3 (I mb 8),by simp [upd,g],zx (U HD) (by decide) (by decide) (fun _ _ h=>h) (U ud) rfl⟩
  | 4,Z =>
   obtain rfl:=ya Z
   have g:f 3 = I mb 8:=hD 3 (yd Q 3 rfl)
   have n17:=n17' (by omega) (by omega)
   have y8:=xk mb 8 _ (U pW) n17
   clear Q hD
   rw [if_pos (by rfl)];unfold Oper.wp;go_simp
   exact ⟨upd f 4 (vt),by simp [upd,g],zx (U HD) (by decide) (by decide) (fun _ _ h=>h) (U ud) rfl⟩
  | 6,Z =>
   obtain rfl:=ya Z
   have g:f 5 = I mb 0:=hD 5 (yd Q 5 rfl)
   clear Q hD
   rw [if_pos (by rfl)];unfold Oper.wp;go_simp
   exact ⟨upd f 6 (I mb 0),by simp [upd,g],zx (U HD) (by decide) (by decide) (fun _ _ h=>h) (U ud) rfl⟩
  | 7,Z =>
   obtain rfl:=ya Z
   have g:f 6 = I mb 0:=hD 6 (yd Q 6 rfl)
   clear Q hD
   rw [if_pos (by rfl)];unfold Oper.wp;go_simp
   exact ⟨upd f 7 (I mb 2),by simp [upd,g],zx (U HD) (by decide) (by decide) (fun _ _ h=>h) (U ud) rfl⟩
  | 8,Z =>
   obtain rfl:=ya Z
   have g:f 7 = I mb 2:=hD 7 (yd Q 7 rfl)
   clear Q hD
   rw [if_pos (by rfl)];unfold Oper.wp;go_simp
   exact ⟨upd f 8 (I mb 2),by simp [upd,g],zx (U HD) (by decide) (by decide) (fun _ _ h=>h) (U ud) rfl⟩
  | 9,Z =>
   obtain rfl:=ya Z
   have g:f 8 = I mb 2:=hD 8 (yd Q 8 rfl)
   have n17:=n17' (by omega) (by omega)
   have y2:=xk mb 2 _ (U vx) n17
   clear Q hD
   rw [if_pos (by rfl)];unfold Oper.wp;go_simp
   exact ⟨upd f 9 (H t.id),by simp [upd,g],zx (U HD) (by decide) (by decide) (fun _ _ h=>h) (U ud) rfl⟩
  | 10,Z =>
   obtain rfl:=ya Z
   clear Q hD
   rw [if_pos (by rfl)];unfold Oper.wp;go_simp
   exact ⟨upd f 10 (yn w 0),by simp [upd],zx (U HD) (by decide) (by decide) (fun _ _ h=>h) (U ud) rfl⟩
  | 11,Z =>
   obtain rfl:=ya Z
   have g:f 10 = yn w 0:=hD 10 (yd Q 10 rfl)
   have n17:=n17' (by omega) (by omega)
   have z0:=xk w.heap.size 0 _ (U HF0) n17
   clear Q hD
   rw [if_pos (by rfl)];unfold Oper.wp;go_simp
   exact ⟨upd f 11 (H uL),by simp [upd,g],zx (U HD) (by decide) (by decide) (fun _ _ h=>h) (U ud) rfl⟩
  | 12,Z =>
   obtain rfl:=ya Z
   clear Q hD
   rw [if_pos (by rfl)];unfold Oper.wp;go_simp
   exact ⟨upd f 12 (H qty),by simp [upd],zx (U HD) (by decide) (by decide) (fun _ _ h=>h) (U ud) rfl⟩
  | 13,Z =>
   obtain rfl:=ya Z
   clear Q hD
   rw [if_pos (by rfl)];unfold Oper.wp;go_simp
   exact ⟨upd f 13 (yn w 2),by simp [upd],zx (U HD) (by decide) (by decide) (fun _ _ h=>h) (U ud) rfl⟩
  | 14,Z =>
   obtain rfl:=ya Z
   have g:f 13 = yn w 2:=hD 13 (yd Q 13 rfl)
   have n17:=n17' (by omega) (by omega)
   have z2:=xk w.heap.size 2 _ (U HF2) n17
   clear Q hD
   rw [if_pos (by rfl)];unfold Oper.wp;go_simp
   exact ⟨upd f 14 (H xv),by simp [upd,g],zx (U HD) (by decide) (by decide) (fun _ _ h=>h) (U ud) rfl⟩
  | 15,Z =>
   obtain rfl:=ya Z
   have g9:f 9 = H t.id:=hD 9 (yd Q 9 rfl)
   have vI:f 11 = H uL:=hD 11 (yd Q 11 rfl)
   have ub:f 12 = H qty:=hD 12 (yd Q 12 rfl)
   have km:f 14 = H xv:=hD 14 (yd Q 14 rfl)
   clear Q hD
   rw [if_pos (by rfl)];unfold Oper.wp;go_simp
   exact ⟨upd f 15 (evV (trE t.id uL qty xv)),by simp [upd,g9,vI,ub,km,evV,trE,zCm],zx (U HD) (by decide) (by decide) (fun _ _ h=>h) (U ud) rfl⟩
  | 16,Z =>
   obtain rfl:=ya Z
   have g:f 15 = evV (trE t.id uL qty xv):=hD 15 (yd Q 15 rfl)
   have n17:=n17' (by omega) (by omega)
   have xV:=U ud n17
   clear Q hD
   unfold evV trE at g
   rw [if_pos (by rfl)];unfold Oper.wp;go_simp
   refine ⟨upd f 16 (.slice (some (yp V 0)) 1 1),by simp [upd,g],zx (U HD) (by decide) (by decide) (dt_alloc n17) (fun _=>xV.alloc xV.size _) ⟨V.heap.size,rfl,fun _=>?_⟩⟩
   exact cellsT V (trE t.id uL qty xv) 46
  | 17,Z =>
   obtain rfl:=ya Z
   have g4:f 4 = vt:=hD 4 (yd Q 4 rfl)
   obtain ⟨s,g16,oj⟩:=hD 16 (yd Q 16 rfl)
   have n17:¬ x[17]? = some true:=by rw [xu]; simp
   have n20:=n20' (by omega)
   have xV:=U ud n17
   have uU:ERow V B vt ts:=zI (U vM) xV
   rw [if_pos (by rfl)]
   refine wp_append_own V (.tmp 17) (.tmp 29) 38 rfl B 46 i0 _ 14 120 Tryz.underlying38 uE uF uK uV rfl (by decide) vt ts.length (ts.flatMap Ev.vs) g4 uU (J s 0) 1 1 (trE t.id uL qty xv).vs g16 rfl (oj n17) (one_ev _) (by unfold maxLen; omega) (by omega) (by have:=xV.size; omega) ?_
   intro v' w' xN uc _
   obtain ⟨ga,gc,rfl⟩:=dL xN (by omega)
   refine ⟨upd f 17 (.slice (some (J ga 0)) (ts.length + 1) gc),rfl,rt_one (by decide) (U HD) xu n20 (fun j v K h=>dt_one j v K h) ⟨some (J ga 0),gc,rfl,trivial,fun _=>⟨?_,?_⟩,fun h=>h.elim⟩⟩
   ·show World.ownsRow _ _ _ _ _ (ts ++ [trE t.id uL qty xv]).length _
    rw [yN,List.flatMap_append]; simpa using xN
   ·exact (aO xV hb).trans uc
  | 18,Z =>
   obtain rfl:=ya Z
   have g:f 0 = I mb 0:=hD 0 (yd Q 0 rfl)
   clear Q hD
   rw [if_pos (by rfl)];unfold Oper.wp;go_simp
   exact ⟨upd f 18 (I mb 0),by simp [upd,g],zx (U HD) (by decide) (by decide) (fun _ _ h=>h) (U ud) rfl⟩
  | 19,Z =>
   obtain rfl:=ya Z
   have g:f 18 = I mb 0:=hD 18 (yd Q 18 rfl)
   clear Q hD
   rw [if_pos (by rfl)];unfold Oper.wp;go_simp
   exact ⟨upd f 19 (I mb 8),by simp [upd,g],zx (U HD) (by decide) (by decide) (fun _ _ h=>h) (U ud) rfl⟩
  | 20,Z =>
   obtain rfl:=ya Z
   have g19:f 19 = I mb 8:=hD 19 (yd Q 19 rfl)
   have k17:x[17]? = some true:=Q ⟨17,.data⟩ (by simp) rfl
   have n20:¬ x[20]? = some true:=by rw [xu]; simp
   obtain ⟨ga,gc,g17,-,hfa,-⟩:=hD 17 k17
   obtain ⟨jU,uc⟩:=hfa n20
   have qR:some mb ≠ vt.ownBlock:=hnt
   have y8:=uc.cell (U pW) qR
   have f8:V.frozen? (J mb 8) = false:=(World.frozen?_of_block (a:=(J mb 8)) (uc.block mb (by omega) qR)).trans (U HF8)
   have jK:=Y (g17 ▸ jU)
   have pd:Hid (∃ xp,V.heap[mb]? = some (.cells xp 157 (0,0))):=by obtain ⟨xp,hc⟩:=U uy; exact ⟨xp,(uc.block mb (by omega) qR).trans hc⟩
   have oa:=Y uc
   clear Q hD jU uc hfa
   rw [if_pos (by rfl)];unfold Oper.wp;go_simp
   refine ⟨upd f 20 M,by simp [upd,g19,g17],rt_two (by decide) (U HD) k17 xu (fun j K hxj h=>dt_two j K h (fun hj17=>?_)) trivial⟩
   subst hj17
   obtain ⟨-,-,-,-,-,-⟩:=h
   refine ⟨ga,gc,g17,trivial,fun h=>absurd trivial h,fun _=>?_⟩
   rw [g17]
   refine ⟨yK _ _ _ y8,zw (U jK) (zl (U jK) (U pd) (by decide)) 8 _,?_⟩
   exact bQ (bz (U oa) (by omega) qR) (cZ (o:=7) _ _)
  | i + 21,Z=>simp at Z
end Go.Proofs.YtbakanofkghmiaaGreat
