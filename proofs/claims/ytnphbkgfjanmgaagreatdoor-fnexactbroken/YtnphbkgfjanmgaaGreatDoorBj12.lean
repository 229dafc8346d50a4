/-
  A trade with the front, by the program: proved by walking the method.
-/
import Derived.Test.YtnphbkgfjanmgaaGreatDoorBj11
set_option linter.unusedVariables false
set_option maxHeartbeats 6400000
set_option maxRecDepth 100000
namespace Go.Proofs.YtnphbkgfjanmgaaGreatDoor
open Go.RowKit
structure MatS (mb B:Nat) (W:World) (next:Int) (vq:Value) (l:List Od) (t:Od) (vt:Value) (ts:List Ev):Prop where
 cells:W.rangeAt mb 0 [.int .i64 next,vq,.int .i64 t.id,.int .i64 t.side,.int .i64 t.ticks,.int .i64 t.left,.int .i64 t.life,.string t.tag,vt]
 there:W.there mb 0 9
 orow:ORow W B vq l
 erow:ERow W B vt ts
 box:∃ cur,W.heap[mb]? = some (.cells cur 254 (0,0))
 le:B ≤ W.heap.size
structure KeptBut (mb B:Nat) (w w':World):Prop where
 os:w'.os = w.os
 tape:w'.tape = w.tape
 output:w'.output = w.output
 size:w.heap.size ≤ w'.heap.size
 block:∀ k,k < B→k ≠ mb→w'.heap[k]? = w.heap[k]?
theorem dx {mb B:Nat} {w w1 w2:World} (Q:KeptBut mb B w w1) (E:KeptBut mb B w1 w2):KeptBut mb B w w2 :=
 ⟨E.os.trans Q.os,E.tape.trans Q.tape,E.output.trans Q.output,yN Q.size E.size,fun k hk hm=>(E.block k hk hm).trans (Q.block k hk hm)⟩
theorem eM {mb B C:Nat} {w w1:World} (h:Below C w w1) (hC:B ≤ C):KeptBut mb B w w1 :=
 ⟨h.os,h.tape,h.output,h.size,fun k hk _=>h.block k (by omega)⟩
theorem kept_took {mb B o:Nat} {G:Option Nat} {w w1:World} (h:TookAt mb o G w w1) (hB:B ≤ w.heap.size) (hG:∀ g,G = some g→B ≤ g):KeptBut mb B w w1 :=
 ⟨h.os,h.tape,h.output,h.size,fun k hk hm=>h.block k (by omega) hm (fun e=>by have:=hG k e.symm; omega)⟩
theorem kept_set {mb B:Nat} (w:World) (o:Nat) (u:Value):KeptBut mb B w (w.setCell (U mb o) u) :=
 ⟨rfl,rfl,rfl,by simp [World.setCell],fun k _ hm=>yS _ _ _ _ hm⟩
theorem kept_drew {mb B:Nat} {w w1:World} (h:KeptBut mb B w w1):KeptBut mb B w w1.drew:=⟨h.os,h.tape,h.output,h.size,h.block⟩
theorem row_took {p o B e sz n:Nat} {G:Option Nat} {v:Value} {xs:List Value} {w w':World} (h:w.ownsRow B e sz v n xs) (ht:TookAt p o G w w') (hp:some p ≠ v.ownBlock) (xD:v.ownBlock = none ∨ v.ownBlock ≠ G):w'.ownsRow B e sz v n xs:=by
 refine ⟨h.1,?_⟩
 rcases h.2 with hn | ⟨g,cap,xF,rfl,Y,hgg,rest⟩
 ·exact .inl hn
 ·refine .inr ⟨g,cap,xF,rfl,Y,?_,rest⟩
  rw [ht.block g (yY.1 hgg).1 (by simpa [Value.ownBlock] using Ne.symm hp) (by simpa [Value.ownBlock] using xD)]
  exact hgg
theorem cd {B e sz n b:Nat} {T:TypeId} {v:Value} {xs:List Value} {w:World} (h:w.ownsRow B e sz v n xs) (Y:∃ xF,w.heap[b]? = some (.cells xF T (0,0))) (xD:T ≠ e):some b ≠ v.ownBlock:=by
 obtain ⟨cb,Y⟩:=Y
 rcases h.2 with ⟨rfl,_⟩ | ⟨g,cap,xF,rfl,_,hgg,rest⟩
 ·simp [Value.ownBlock]
 ·intro e0
  simp only [Value.ownBlock,Option.some.injEq] at e0
  subst e0
  rw [Y] at hgg
  simp only [Option.some.injEq,Obj.cells.injEq] at hgg
  exact xD hgg.2.1
theorem MatS.nq {mb B:Nat} {W:World} {next:Int} {vq:Value} {l:List Od} {t:Od} {vt:Value} {ts:List Ev} (h:MatS mb B W next vq l t vt ts):some mb ≠ vq.ownBlock:=cd h.orow h.box (by decide)
theorem MatS.nt {mb B:Nat} {W:World} {next:Int} {vq:Value} {l:List Od} {t:Od} {vt:Value} {ts:List Ev} (h:MatS mb B W next vq l t vt ts):some mb ≠ vt.ownBlock:=cd h.erow h.box (by decide)
theorem MatS.lt {mb B:Nat} {W:World} {next:Int} {vq:Value} {l:List Od} {t:Od} {vt:Value} {ts:List Ev} (h:MatS mb B W next vq l t vt ts):mb < W.heap.size:=by
 obtain ⟨xF,h⟩:=h.box
 exact (yY.1 h).1
theorem eT {B B' e e' sz sz' n n':Nat} {v v':Value} {xs xs':List Value} {w:World} (h:w.ownsRow B e sz v n xs) (h':w.ownsRow B' e' sz' v' n' xs') (xD:e ≠ e'):v.ownBlock = none ∨ v.ownBlock ≠ v'.ownBlock:=by
 rcases h.2 with ⟨rfl,_⟩ | ⟨g,cap,xF,rfl,Y,hgg,rest⟩
 ·exact .inl rfl
 ·refine .inr ?_
  rcases h'.2 with ⟨rfl,_⟩ | ⟨g',uD,cur',rfl,hb',hgg',rest'⟩
  ·simp [Value.ownBlock]
  ·intro e0
   simp only [Value.ownBlock,Option.some.injEq] at e0
   subst e0
   rw [hgg] at hgg'
   simp only [Option.some.injEq,Obj.cells.injEq] at hgg'
   exact xD hgg'.2.1
theorem trade_any (mb B:Nat) (next:Int) (vq:Value) (l:List Od) (t:Od) (vt:Value) (ts:List Ev) (o:Od) (k:Nat) (w:World) (h:MatS mb B w next vq l t vt ts)
  (hk:plc l o.id = k) (hc:l[k]? = some o) (hn:l.length ≤ 1000) (hts:ts.length ≤ 1000) (ht0:0 ≤ t.left) (ht1:t.left ≤ 1000000) (ho0:0 ≤ o.left) (kN:o.left ≤ 1000000) (qty:Int) (hq:qty = min t.left o.left) :
  Calls Tryz.prog 217 #[J mb 0,.agg (yw o.id o.side o.ticks o.left o.life o.tag).toArray] w fun e w' =>
   ∃ uH vt',e = ym (.tuple #[])∧MatS mb B w' next uH (aR l k o qty) { t with left:=t.left - qty } vt' (ts ++ [trE t.id o.id qty o.ticks])∧KeptBut mb B w w':=by
 obtain ⟨uN,vg,xC,xO,vf,qv⟩:=o
 simp only at *
 have HM:=M h
 have hmw:=h.lt
 have vV:=h.le
 have hnq:=h.nq
 have hnt:=h.nt
 have ud:Hid (yn w (w.alloc (A (yw uN vg xC xO vf qv).toArray 78))):=fE _ _
 have jh:=zc h.cells (H ud) hmw
 have oL:=zn w (yw uN vg xC xO vf qv) 78
 have y5:=jh 5 _ rfl
 have z3:=oL 3 _ rfl
 simp only [Nat.zero_add] at y5 z3
 have vj:=M jh
 have HF1:=M oL
 have HK:=M hk
 have HC:=M hc
 have HQ:=M hq
 clear h jh oL hk hc hq
 go_enter Tryz.func217,Tryz.ntmps217
 go_wp2_with fail
 have HF1:Hid (World.rangeAt (w.alloc (A (yw uN vg xC xO vf qv).toArray 78)) w.heap.size 0 (yw uN vg xC xO vf qv)):=H HF1
 have z3:World.cell? (w.alloc (A (yw uN vg xC xO vf qv).toArray 78)) (yq w 3) = some (I xO):=z3
 generalize (w.alloc (A (yw uN vg xC xO vf qv).toArray 78)) = W1 at ud vj HF1 y5 z3 ⊢
 have hmin:∀ W,(Builtin.min_ #[3,3] 3 #[I t.left,I xO]).run Tryz.prog W = .ok (I qty) W:=fun W=>by
  rw [H HQ]
  by_cases qi:t.left ≤ xO
  ·rw [Int.min_eq_left qi]; go_simp; omega
  ·rw [Int.min_eq_right (by omega)]; go_simp
 go_quiet (fail)
 go_wp2_with fail
 have hB0:Hid (yn w (W1.drewN nq)):=zV (H ud) nq
 have hM:Hid ((W1.drewN nq).rangeAt mb 0 [I next,vq,I t.id,I t.side,I t.ticks,I t.left,I t.life,yk t.tag,vt]):=H vj
 have hFF:Hid ((W1.drewN nq).rangeAt w.heap.size 0 (yw uN vg xC xO vf qv)):=H HF1
 have hT9:Hid ((W1.drewN nq).there mb 0 9):=zo (H HM).there (H hB0) hmw
 have HROW:Hid (ERow (W1.drewN nq) B vt ts):=cU (H HM).erow (H hB0)
 have qE:Hid (∃ xF,(W1.drewN nq).heap[mb]? = some (.cells xF 254 (0,0))):=by obtain ⟨xF,hc⟩:=(H HM).box; exact ⟨xF,((H hB0).block mb hmw).trans hc⟩
 have HORO:Hid (ORow (W1.drewN nq) B vq l):=zM (H HM).orow (H hB0)
 have xK:w.heap.size < (W1.drewN nq).heap.size:=yK (W1.drewN nq) (yq w (0 + 0)) (H hFF 0 _ rfl)
 clear y5 z3 hmin vj HF1 ud
 generalize W1.drewN nq = W0 at hB0 hM hFF hT9 HROW HORO qE xK ⊢
 have HM8:Hid (W0.cell? (U mb 8) = some vt):=H hM 8 _ rfl
 have xQ:Hid (W0.cell? (U mb 2) = some (I t.id)):=H hM 2 _ rfl
 have HF0:Hid (W0.cell? (yq w 0) = some (I uN)):=H hFF 0 _ rfl
 have vC:Hid (W0.cell? (yq w 2) = some (I xC)):=H hFF 2 _ rfl
 have HF8:Hid (W0.frozen? (U mb 8) = false):=by have:=(H hT9 8 (by omega)).2; rwa [Nat.zero_add] at this
 have hmw0:mb < W0.heap.size:=by omega
 have hBW0:B ≤ W0.heap.size:=by omega
 obtain ⟨i0,vA,uL,uM,uF⟩:=info_parts infoEv
 refine zk (RT (fun xn=>yn W0 xn) (fun f=>{ tmps:=#[J mb 0,.agg (yw uN vg xC xO vf qv).toArray,Z,yp w 0,I qty,J mb 0,J mb 0,J mb 2,J mb 5,I t.left,yp w 3,I xO,I qty,f 0,f 1,f 2,f 3,f 4,f 5,f 6,f 7,f 8,f 9,f 10,f 11,f 12,f 13,f 14,f 15,f 16,f 17,f 18,f 19,Z,Z,Z,Z,Z,Z,Z,Z,Z,Z,Z,Z,Z,Z,Z,Z,Z],defers:=[] }) 17 20 (DT mb w.heap.size B W0 vt ts t.id uN qty xC)) (by kernel_rfl) ?_ ?_ ?_
 ·exact ⟨fun _=>Z,rfl,fun _=>⟨rfl,rfl,rfl,Nat.le_refl _,fun _ _=>rfl⟩,fun j O=>by rw [yI] at O; split at O <;> simp at O⟩
 ·rintro x fG xn ⟨f,rfl,-,hD⟩ hx xN
  have xo:=zN xN hx (acyc _ (by kernel_rfl))
  have pm:x[17]? = some true:=xo 17 (by simp)
  have k20:x[20]? = some true:=xo 20 (by simp)
  obtain ⟨va,vc,-,-,-,qC⟩:=hD 17 pm
  obtain ⟨q1,q2,q3⟩:=qC k20
  have jn:Hid (_∧_∧_):=⟨q1,q2,q3⟩
  clear hD xo xN hx pm k20 qC q1 q2 q3
  dsimp only
  generalize f 17 = v17 at jn ⊢
  generalize f 0 = a0,f 1 = a1,f 2 = a2,f 3 = a3,f 4 = a4,f 5 = a5,f 6 = a6,f 7 = a7,f 8 = a8,f 9 = a9,f 10 = a10,f 11 = a11,f 12 = a12,f 13 = a13,f 14 = a14,f 15 = a15,f 16 = a16,f 18 = a18,f 19 = a19
  obtain ⟨q1,q2,q3⟩:=H jn
  have hvtB:∀ g,vt.ownBlock = some g→B ≤ g∧g < w.heap.size:=(H HM).erow.lt
  have z0:xn.cell? (yq w 0) = some (I uN):=(yQ (a:=(yq w 0)) (q3.block w.heap.size xK (by omega) (fun e=>by have:=hvtB _ e.symm; omega))).trans (H HF0)
  have y5:xn.cell? (U mb 5) = some (I t.left):=(q3.cell 5 (by omega)).trans (H hM 5 _ rfl)
  have f5:xn.frozen? (U mb 5) = false:=(q3.frozen 5).trans (by have:=(H hT9 5 (by omega)).2; rwa [Nat.zero_add] at this)
  have hwr:IntKind.i64.wrap (t.left - qty) = t.left - qty:=by rw [IntKind.wrap_i64]; have:=H HQ; omega
  have hbxV:∃ xF,xn.heap[mb]? = some (.cells xF 254 (0,0)):=by obtain ⟨xF,hc⟩:=H qE; exact q3.kind _ _ _ hc
  have hn17:some mb ≠ v17.ownBlock:=cd q2 hbxV (by decide)
  have HBX2:Hid (∃ xF,(xn.setCell (U mb 5) (I (t.left - qty))).drew.heap[mb]? = some (.cells xF 254 (0,0))):=by obtain ⟨xF,hc⟩:=hbxV; exact bU xn mb 5 _ hc
  have hms2:mb < (xn.setCell (U mb 5) (I (t.left - qty))).drew.heap.size:=by
   have:=q3.size
   show mb < (xn.setCell (U mb 5) (I (t.left - qty))).heap.size
   simp [World.setCell]; omega
  have q4:ORow xn B vq l:=row_took (H HORO) q3 hnq (eT (H HORO) (H HROW) (by decide))
  have Z0:(xn.setCell (U mb 5) (I (t.left - qty))).drew.cell? (yq w 0) = some (I uN):=(yL _ _ _ _ (fun e=>by have:=congrArg Addr.block e; simp at this; omega)).trans z0
  have kw:Hid (ORow (xn.setCell (U mb 5) (I (t.left - qty))).drew B vq l):=bp q4 hnq 5 _
  have HE2:Hid (ERow (xn.setCell (U mb 5) (I (t.left - qty))).drew B v17 (ts ++ [trE t.id uN qty xC])):=bp q2 (cd q2 hbxV (by decide)) 5 _
  have HC5:Hid ((xn.setCell (U mb 5) (I (t.left - qty))).drew.cell? (U mb 5) = some (I (t.left - qty))):=yM _ _ _ y5
  have uw:Hid (∀ j,j ≠ 5→(xn.setCell (U mb 5) (I (t.left - qty))).drew.cell? (U mb j) = xn.cell? (U mb j)):=fun j O=>yL _ _ _ _ (cy (fun e=>O e.symm))
  have HFR:Hid (∀ j,(xn.setCell (U mb 5) (I (t.left - qty))).drew.frozen? (U mb j) = xn.frozen? (U mb j)):=fun j=>World.frozen?_setCell _ _ _ _
  have xU:Hid (KeptBut mb B w (xn.setCell (U mb 5) (I (t.left - qty))).drew):=kept_drew (dx (dx (eM (H hB0) (by omega)) (kept_took q3 (by omega) (fun g hg=>(hvtB g hg).1))) (kept_set xn 5 _))
  have ue:B ≤ (xn.setCell (U mb 5) (I (t.left - qty))).drew.heap.size:=by
   have:=q3.size
   show B ≤ (xn.setCell (U mb 5) (I (t.left - qty))).heap.size
   simp [World.setCell]; omega
  clear q2 q4 jn hbxV
  have Q1:=M q1
  have Q3:=M q3
  clear q1 q3 z0
  go_wp2_with fail
  generalize om:xn.setCell (U mb 5) (I (t.left - qty)) = V2 at Z0 kw HE2 HC5 uw HFR xU ue HBX2 hms2 ⊢
  clear om y5 f5 hwr
  refine zE 6 (by kernel_rfl) (by kernel_rfl) ?_
  simp only [yT,List.take_zero,yU,List.drop_zero]
  repeat still_step
  refine wpStill_nil ?_
  go_wp2_with fail
  refine (ez mb 0 B next uN qty vq l k ⟨uN,vg,xC,xO,vf,qv⟩ _ ((H uw 0 (by omega)).trans (((H Q3).cell 0 (by omega)).trans (H hM 0 _ rfl))) ((H uw 1 (by omega)).trans (((H Q3).cell 1 (by omega)).trans (H hM 1 _ rfl))) ((H HFR 1).trans (((H Q3).frozen 1).trans (by have:=(H hT9 1 (by omega)).2; rwa [Nat.zero_add] at this))) (H kw) hnq hms2 ue hn (H HK) (H HC) (by have:=H HQ; omega) (by have:=H HQ; show qty ≤ xO; omega) kN).mono ?_
  rintro e w9 ⟨uH,rfl,jp,kO,aN⟩
  have HC1:=M jp
  have HO9:=M kO
  have HT9:=M aN
  clear jp kO aN
  go_wp2_with fail
  go_end0
  have xr:∀ j,j ≠ 1→j ≠ 5→j ≠ 8→w9.cell? (U mb j) = W0.cell? (U mb j):=fun j Q h5 h8=>((H HT9).cell j (by omega)).trans ((H uw j h5).trans ((H Q3).cell j (by omega)))
  have xV:w9.rangeAt mb 0 [I next,uH,I t.id,I t.side,I t.ticks,I (t.left - qty),I t.life,yk t.tag,v17]:=by
   intro j u O
   rw [Nat.zero_add]
   match j,O with
   | 0,O=>cases O; exact (xr 0 (by omega) (by omega) (by omega)).trans (H hM 0 _ rfl)
   | 1,O=>cases O; exact H HC1
   | 2,O=>cases O; exact (xr 2 (by omega) (by omega) (by omega)).trans (H hM 2 _ rfl)
   | 3,O=>cases O; exact (xr 3 (by omega) (by omega) (by omega)).trans (H hM 3 _ rfl)
   | 4,O=>cases O; exact (xr 4 (by omega) (by omega) (by omega)).trans (H hM 4 _ rfl)
   | 5,O=>cases O; exact ((H HT9).cell 5 (by omega)).trans (H HC5)
   | 6,O=>cases O; exact (xr 6 (by omega) (by omega) (by omega)).trans (H hM 6 _ rfl)
   | 7,O=>cases O; exact (xr 7 (by omega) (by omega) (by omega)).trans (H hM 7 _ rfl)
   | 8,O=>cases O; exact ((H HT9).cell 8 (by omega)).trans ((H uw 8 (by omega)).trans (H Q1))
   | j + 9,O=>simp at O
  refine ⟨uH,v17,rfl,⟨xV,fun j O=>⟨?_,?_⟩,H HO9,row_took (H HE2) (H HT9) hn17 (eT (H HE2) (H kw) (by decide)),by obtain ⟨xF,hc⟩:=H HBX2; exact (H HT9).kind _ _ _ hc,yN ue (H HT9).size⟩,dx (H xU) (kept_took (H HT9) ue (fun g hg=>((H kw).lt g hg).1))⟩
  ·match j,O with
   | 0,_=>exact Option.isSome_iff_exists.2 ⟨_,xV 0 _ rfl⟩
   | 1,_=>exact Option.isSome_iff_exists.2 ⟨_,xV 1 _ rfl⟩
   | 2,_=>exact Option.isSome_iff_exists.2 ⟨_,xV 2 _ rfl⟩
   | 3,_=>exact Option.isSome_iff_exists.2 ⟨_,xV 3 _ rfl⟩
   | 4,_=>exact Option.isSome_iff_exists.2 ⟨_,xV 4 _ rfl⟩
   | 5,_=>exact Option.isSome_iff_exists.2 ⟨_,xV 5 _ rfl⟩
   | 6,_=>exact Option.isSome_iff_exists.2 ⟨_,xV 6 _ rfl⟩
   | 7,_=>exact Option.isSome_iff_exists.2 ⟨_,xV 7 _ rfl⟩
   | 8,_=>exact Option.isSome_iff_exists.2 ⟨_,xV 8 _ rfl⟩
   | j + 9,h=>omega
  ·have:=(H hT9 j O).2
   rw [Nat.zero_add] at this ⊢
   exact ((H HT9).frozen j).trans ((H HFR j).trans (((H Q3).frozen j).trans this))
 ·rintro x fG xn i op ⟨f,rfl,py,hD⟩ V hx N xq D
  have qc:=M py
  have HD:=M hD
  have kK:i < 17→0 < i→¬ x[17]? = some true:=fun xI qK qZ=>by
   have h16:=yf V 17 rfl qZ 16 rfl
   have h4:=yf V 17 rfl qZ 4 rfl
   have vQ:=yf V 16 rfl h16 15 rfl
   have h9:=yf V 15 rfl vQ 9 rfl
   have uS:=yf V 15 rfl vQ 11 rfl
   have uO:=yf V 15 rfl vQ 12 rfl
   have oH:=yf V 15 rfl vQ 14 rfl
   have h8:=yf V 9 rfl h9 8 rfl
   have h7:=yf V 8 rfl h8 7 rfl
   have h6:=yf V 7 rfl h7 6 rfl
   have h5:=yf V 6 rfl h6 5 rfl
   have uV:=yf V 11 rfl uS 10 rfl
   have jN:=yf V 14 rfl oH 13 rfl
   have h3:=yf V 4 rfl h4 3 rfl
   have E:=yf V 3 rfl h3 2 rfl
   have Q:=yf V 2 rfl E 1 rfl
   have vK:∀ j,0 < j→j < 17→x[j]? = some true:=fun j hj0 O=>by
    rcases (by omega:j = 1 ∨ j = 2 ∨ j = 3 ∨ j = 4 ∨ j = 5 ∨ j = 6 ∨ j = 7 ∨ j = 8 ∨ j = 9 ∨ j = 10 ∨ j = 11 ∨ j = 12 ∨ j = 13 ∨ j = 14 ∨ j = 15 ∨ j = 16) with rfl | rfl | rfl | rfl | rfl | rfl | rfl | rfl | rfl | rfl | rfl | rfl | rfl | rfl | rfl | rfl <;> assumption
   rw [vK i qK xI] at xq; cases xq
  have n20':i < 20→¬ x[20]? = some true:=fun xI h20=>by
   have h19:=yf V 20 rfl h20 19 rfl
   have qZ:=yf V 20 rfl h20 17 rfl
   have pv:=yf V 19 rfl h19 18 rfl
   have h16:=yf V 17 rfl qZ 16 rfl
   have h4:=yf V 17 rfl qZ 4 rfl
   have vQ:=yf V 16 rfl h16 15 rfl
   have h9:=yf V 15 rfl vQ 9 rfl
   have uS:=yf V 15 rfl vQ 11 rfl
   have uO:=yf V 15 rfl vQ 12 rfl
   have oH:=yf V 15 rfl vQ 14 rfl
   have h8:=yf V 9 rfl h9 8 rfl
   have h7:=yf V 8 rfl h8 7 rfl
   have h6:=yf V 7 rfl h7 6 rfl
   have h5:=yf V 6 rfl h6 5 rfl
   have uV:=yf V 11 rfl uS 10 rfl
   have jN:=yf V 14 rfl oH 13 rfl
   have h3:=yf V 4 rfl h4 3 rfl
   have E:=yf V 3 rfl h3 2 rfl
   have Q:=yf V 2 rfl E 1 rfl
   have h0:=yf V 18 rfl pv 0 rfl
   have vK:∀ j,j < 20→x[j]? = some true:=fun j O=>by
    rcases (by omega:j = 0 ∨ j = 1 ∨ j = 2 ∨ j = 3 ∨ j = 4 ∨ j = 5 ∨ j = 6 ∨ j = 7 ∨ j = 8 ∨ j = 9 ∨ j = 10 ∨ j = 11 ∨ j = 12 ∨ j = 13 ∨ j = 14 ∨ j = 15 ∨ j = 16 ∨ j = 17 ∨ j = 18 ∨ j = 19) with rfl | rfl | rfl | rfl | rfl | rfl | rfl | rfl | rfl | rfl | rfl | rfl | rfl | rfl | rfl | rfl | rfl | rfl | rfl | rfl <;> assumption
   rw [vK i xI] at xq; cases xq
  have xl:∀ (b o:Nat) (u:Value),W0.cell? (U b o) = some u→¬ x[17]? = some true→xn.cell? (U b o) = some u:=fun b o u hu hn17=>((py hn17).cell (p:=(U b o)) (yK W0 _ hu)).trans hu
  clear py V
  match i,N with
  | 0,N | 1,N | 5,N =>
   obtain rfl:=yb N
   clear D hD
   rw [if_pos (by rfl)];unfold Oper.wp;go_simp
   exact ⟨upd f _ (J mb 0),by simp [upd],zT (H HD) (by decide) (by decide) (fun _ _ h=>h) (H qc) rfl⟩
  | 2,N =>
   obtain rfl:=yb N
   have g:f 1 = J mb 0:=hD 1 (ye D 1 rfl)
   clear D hD
   rw [if_pos (by rfl)];unfold Oper.wp;go_simp
   exact ⟨upd f 2 (J mb 0),by simp [upd,g],zT (H HD) (by decide) (by decide) (fun _ _ h=>h) (H qc) rfl⟩
  | 3,N =>
   obtain rfl:=yb N
   have g:f 2 = J mb 0:=hD 2 (ye D 2 rfl)
   clear D hD
   rw [if_pos (by rfl)];unfold Oper.wp;go_simp
   exact ⟨upd f 3 (J mb 8),by simp [upd,g],zT (H HD) (by decide) (by decide) (fun _ _ h=>h) (H qc) rfl⟩
  | 4,N =>
   obtain rfl:=yb N
   have g:f 3 = J mb 8:=hD 3 (ye D 3 rfl)
   have jr:=kK (by omega) (by omega)
   have y8:=xl mb 8 _ (H HM8) jr
   clear D hD
   rw [if_pos (by rfl)];unfold Oper.wp;go_simp
   exact ⟨upd f 4 (vt),by simp [upd,g],zT (H HD) (by decide) (by decide) (fun _ _ h=>h) (H qc) rfl⟩
  | 6,N =>
   obtain rfl:=yb N
   have g:f 5 = J mb 0:=hD 5 (ye D 5 rfl)
   clear D hD
   rw [if_pos (by rfl)];unfold Oper.wp;go_simp
   exact ⟨upd f 6 (J mb 0),by simp [upd,g],zT (H HD) (by decide) (by decide) (fun _ _ h=>h) (H qc) rfl⟩
  | 7,N =>
   obtain rfl:=yb N
   have g:f 6 = J mb 0:=hD 6 (ye D 6 rfl)
   clear D hD
   rw [if_pos (by rfl)];unfold Oper.wp;go_simp
   exact ⟨upd f 7 (J mb 2),by simp [upd,g],zT (H HD) (by decide) (by decide) (fun _ _ h=>h) (H qc) rfl⟩
  | 8,N =>
   obtain rfl:=yb N
   have g:f 7 = J mb 2:=hD 7 (ye D 7 rfl)
   clear D hD
   rw [if_pos (by rfl)];unfold Oper.wp;go_simp
   exact ⟨upd f 8 (J mb 2),by simp [upd,g],zT (H HD) (by decide) (by decide) (fun _ _ h=>h) (H qc) rfl⟩
  | 9,N =>
   obtain rfl:=yb N
   have g:f 8 = J mb 2:=hD 8 (ye D 8 rfl)
   have jr:=kK (by omega) (by omega)
   have y2:=xl mb 2 _ (H xQ) jr
   clear D hD
   rw [if_pos (by rfl)];unfold Oper.wp;go_simp
   exact ⟨upd f 9 (I t.id),by simp [upd,g],zT (H HD) (by decide) (by decide) (fun _ _ h=>h) (H qc) rfl⟩
  | 10,N =>
   obtain rfl:=yb N
   clear D hD
   rw [if_pos (by rfl)];unfold Oper.wp;go_simp
   exact ⟨upd f 10 (yp w 0),by simp [upd],zT (H HD) (by decide) (by decide) (fun _ _ h=>h) (H qc) rfl⟩
  | 11,N =>
   obtain rfl:=yb N
   have g:f 10 = yp w 0:=hD 10 (ye D 10 rfl)
   have jr:=kK (by omega) (by omega)
   have z0:=xl w.heap.size 0 _ (H HF0) jr
   clear D hD
   rw [if_pos (by rfl)];unfold Oper.wp;go_simp
   exact ⟨upd f 11 (I uN),by simp [upd,g],zT (H HD) (by decide) (by decide) (fun _ _ h=>h) (H qc) rfl⟩
  | 12,N =>
   obtain rfl:=yb N
   clear D hD
   rw [if_pos (by rfl)];unfold Oper.wp;go_simp
   exact ⟨upd f 12 (I qty),by simp [upd],zT (H HD) (by decide) (by decide) (fun _ _ h=>h) (H qc) rfl⟩
  | 13,N =>
   obtain rfl:=yb N
   clear D hD
   rw [if_pos (by rfl)];unfold Oper.wp;go_simp
   exact ⟨upd f 13 (yp w 2),by simp [upd],zT (H HD) (by decide) (by decide) (fun _ _ h=>h) (H qc) rfl⟩
  | 14,N =>
   obtain rfl:=yb N
   have g:f 13 = yp w 2:=hD 13 (ye D 13 rfl)
   have jr:=kK (by omega) (by omega)
   have z2:=xl w.heap.size 2 _ (H vC) jr
   clear D hD
   rw [if_pos (by rfl)];unfold Oper.wp;go_simp
   exact ⟨upd f 14 (I xC),by simp [upd,g],zT (H HD) (by decide) (by decide) (fun _ _ h=>h) (H qc) rfl⟩
  | 15,N =>
   obtain rfl:=yb N
   have g9:f 9 = I t.id:=hD 9 (ye D 9 rfl)
   have vE:f 11 = I uN:=hD 11 (ye D 11 rfl)
   have xZ:f 12 = I qty:=hD 12 (ye D 12 rfl)
   have jf:f 14 = I xC:=hD 14 (ye D 14 rfl)
   clear D hD
   rw [if_pos (by rfl)];unfold Oper.wp;go_simp
   exact ⟨upd f 15 (evV (trE t.id uN qty xC)),by simp [upd,g9,vE,xZ,jf,evV,trE,zCm],zT (H HD) (by decide) (by decide) (fun _ _ h=>h) (H qc) rfl⟩
  | 16,N =>
   obtain rfl:=yb N
   have g:f 15 = evV (trE t.id uN qty xC):=hD 15 (ye D 15 rfl)
   have jr:=kK (by omega) (by omega)
   have vn:=H qc jr
   clear D hD
   unfold evV trE at g
   rw [if_pos (by rfl)];unfold Oper.wp;go_simp
   refine ⟨upd f 16 (.slice (some (yq xn 0)) 1 1),by simp [upd,g],zT (H HD) (by decide) (by decide) (dt_alloc jr) (fun _=>vn.alloc vn.size _) ⟨xn.heap.size,rfl,fun _=>?_⟩⟩
   exact cellsT xn (trE t.id uN qty xC) 52
  | 17,N =>
   obtain rfl:=yb N
   have g4:f 4 = vt:=hD 4 (ye D 4 rfl)
   obtain ⟨s,g16,kq⟩:=hD 16 (ye D 16 rfl)
   have jr:¬ x[17]? = some true:=by rw [xq]; simp
   have n20:=n20' (by omega)
   have vn:=H qc jr
   have uK:ERow xn B vt ts:=cU (H HROW) vn
   rw [if_pos (by rfl)]
   refine wp_append_own xn (.tmp 17) (.tmp 29) 36 rfl B 52 i0 _ 14 120 Tryz.underlying36 vA uL uM uF rfl (by decide) vt ts.length (ts.flatMap Ev.vs) g4 uK (U s 0) 1 1 (trE t.id uN qty xC).vs g16 rfl (kq jr) (one_ev _) (by unfold maxLen; omega) (by omega) (by have:=vn.size; omega) ?_
   intro v' w' xR vG _
   obtain ⟨ga,gc,rfl⟩:=row_sliceT xR (by omega)
   refine ⟨upd f 17 (.slice (some (U ga 0)) (ts.length + 1) gc),rfl,rt_one (by decide) (H HD) xq n20 (fun j v O h=>dt_one j v O h) ⟨some (U ga 0),gc,rfl,trivial,fun _=>⟨?_,?_⟩,fun h=>h.elim⟩⟩
   ·show World.ownsRow _ _ _ _ _ (ts ++ [trE t.id uN qty xC]).length _
    rw [yP,List.flatMap_append]; simpa using xR
   ·exact (cK vn ya).trans vG
  | 18,N =>
   obtain rfl:=yb N
   have g:f 0 = J mb 0:=hD 0 (ye D 0 rfl)
   clear D hD
   rw [if_pos (by rfl)];unfold Oper.wp;go_simp
   exact ⟨upd f 18 (J mb 0),by simp [upd,g],zT (H HD) (by decide) (by decide) (fun _ _ h=>h) (H qc) rfl⟩
  | 19,N =>
   obtain rfl:=yb N
   have g:f 18 = J mb 0:=hD 18 (ye D 18 rfl)
   clear D hD
   rw [if_pos (by rfl)];unfold Oper.wp;go_simp
   exact ⟨upd f 19 (J mb 8),by simp [upd,g],zT (H HD) (by decide) (by decide) (fun _ _ h=>h) (H qc) rfl⟩
  | 20,N =>
   obtain rfl:=yb N
   have g19:f 19 = J mb 8:=hD 19 (ye D 19 rfl)
   have pm:x[17]? = some true:=D ⟨17,.data⟩ (by simp) rfl
   have n20:¬ x[20]? = some true:=by rw [xq]; simp
   obtain ⟨ga,gc,g17,-,hfa,-⟩:=hD 17 pm
   obtain ⟨her,vG⟩:=hfa n20
   have ox:some mb ≠ vt.ownBlock:=hnt
   have y8:=vG.cell (H HM8) ox
   have f8:xn.frozen? (U mb 8) = false:=(World.frozen?_of_block (a:=(U mb 8)) (vG.block mb (by omega) ox)).trans (H HF8)
   have ay:=M (g17 ▸ her)
   have HBXV:Hid (∃ xF,xn.heap[mb]? = some (.cells xF 254 (0,0))):=by obtain ⟨xF,hc⟩:=H qE; exact ⟨xF,(vG.block mb (by omega) ox).trans hc⟩
   have HGR:=M vG
   clear D hD her vG hfa
   rw [if_pos (by rfl)];unfold Oper.wp;go_simp
   refine ⟨upd f 20 Z,by simp [upd,g19,g17],rt_two (by decide) (H HD) pm xq (fun j O hxj h=>dt_two j O h (fun hj17=>?_)) trivial⟩
   subst hj17
   obtain ⟨-,-,-,-,-,-⟩:=h
   refine ⟨ga,gc,g17,trivial,fun h=>absurd trivial h,fun _=>?_⟩
   rw [g17]
   refine ⟨yM _ _ _ y8,bp (H ay) (cd (H ay) (H HBXV) (by decide)) 8 _,?_⟩
   exact dC (cV (H HGR) (by omega) ox) (took_set (o:=7) _ _)
  | i + 21,N=>simp at N
end Go.Proofs.YtnphbkgfjanmgaaGreatDoor
