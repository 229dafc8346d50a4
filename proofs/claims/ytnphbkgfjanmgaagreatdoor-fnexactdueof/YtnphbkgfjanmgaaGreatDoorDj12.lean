/-
  A trade with the front, by the program: proved by walking the method.
-/
import Derived.Test.YtnphbkgfjanmgaaGreatDoorDj11
set_option linter.unusedVariables false
set_option maxHeartbeats 6400000
set_option maxRecDepth 100000
namespace Go.Proofs.YtnphbkgfjanmgaaGreatDoor
open Go.RowKit
structure MatS (mb B:Nat) (W:World) (next:Int) (vq:Value) (l:List Od) (t:Od) (vt:Value) (ts:List Ev):Prop where
 cells:W.rangeAt mb 0 [.int .i64 next,vq,.int .i64 t.id,.int .i64 t.side,.int .i64 t.ticks,.int .i64 t.left,.int .i64 t.life,.string t.tag,vt]
 there:W.there mb 0 9
 orow:ORow W B vq l
 erow:ERow W B vt ts
 box:∃ cur,W.heap[mb]? = some (.cells cur 254 (0,0))
 le:B ≤ W.heap.size
structure KeptBut (mb B:Nat) (w w':World):Prop where
 os:w'.os = w.os
 tape:w'.tape = w.tape
 output:w'.output = w.output
 size:w.heap.size ≤ w'.heap.size
 block:∀ k,k < B→k ≠ mb→w'.heap[k]? = w.heap[k]?
theorem df {mb B:Nat} {w w1 w2:World} (N:KeptBut mb B w w1) (Y:KeptBut mb B w1 w2):KeptBut mb B w w2 :=
 ⟨Y.os.trans N.os,Y.tape.trans N.tape,Y.output.trans N.output,yO N.size Y.size,fun k hk hm=>(Y.block k hk hm).trans (N.block k hk hm)⟩
theorem eH {mb B C:Nat} {w w1:World} (h:Below C w w1) (hC:B ≤ C):KeptBut mb B w w1 :=
 ⟨h.os,h.tape,h.output,h.size,fun k hk _=>h.block k (by omega)⟩
theorem kept_took {mb B o:Nat} {G:Option Nat} {w w1:World} (h:TookAt mb o G w w1) (hB:B ≤ w.heap.size) (hG:∀ g,G = some g→B ≤ g):KeptBut mb B w w1 :=
 ⟨h.os,h.tape,h.output,h.size,fun k hk hm=>h.block k (by omega) hm (fun e=>by have:=hG k e.symm; omega)⟩
theorem kept_set {mb B:Nat} (w:World) (o:Nat) (u:Value):KeptBut mb B w (w.setCell (Q mb o) u) :=
 ⟨rfl,rfl,rfl,by simp [World.setCell],fun k _ hm=>yT _ _ _ _ hm⟩
theorem kept_drew {mb B:Nat} {w w1:World} (h:KeptBut mb B w w1):KeptBut mb B w w1.drew:=⟨h.os,h.tape,h.output,h.size,h.block⟩
theorem row_took {p o B e sz n:Nat} {G:Option Nat} {v:Value} {xs:List Value} {w w':World} (h:w.ownsRow B e sz v n xs) (ht:TookAt p o G w w') (hp:some p ≠ v.ownBlock) (xD:v.ownBlock = none ∨ v.ownBlock ≠ G):w'.ownsRow B e sz v n xs:=by
 refine ⟨h.1,?_⟩
 rcases h.2 with hn | ⟨g,cap,xF,rfl,E,hgg,rest⟩
 ·exact .inl hn
 ·refine .inr ⟨g,cap,xF,rfl,E,?_,rest⟩
  rw [ht.block g (yZ.1 hgg).1 (by simpa [Value.ownBlock] using Ne.symm hp) (by simpa [Value.ownBlock] using xD)]
  exact hgg
theorem bU {B e sz n b:Nat} {T:TypeId} {v:Value} {xs:List Value} {w:World} (h:w.ownsRow B e sz v n xs) (E:∃ xF,w.heap[b]? = some (.cells xF T (0,0))) (xD:T ≠ e):some b ≠ v.ownBlock:=by
 obtain ⟨cb,E⟩:=E
 rcases h.2 with ⟨rfl,_⟩ | ⟨g,cap,xF,rfl,_,hgg,rest⟩
 ·simp [Value.ownBlock]
 ·intro e0
  simp only [Value.ownBlock,Option.some.injEq] at e0
  subst e0
  rw [E] at hgg
  simp only [Option.some.injEq,Obj.cells.injEq] at hgg
  exact xD hgg.2.1
theorem MatS.nq {mb B:Nat} {W:World} {next:Int} {vq:Value} {l:List Od} {t:Od} {vt:Value} {ts:List Ev} (h:MatS mb B W next vq l t vt ts):some mb ≠ vq.ownBlock:=bU h.orow h.box (by decide)
theorem MatS.nt {mb B:Nat} {W:World} {next:Int} {vq:Value} {l:List Od} {t:Od} {vt:Value} {ts:List Ev} (h:MatS mb B W next vq l t vt ts):some mb ≠ vt.ownBlock:=bU h.erow h.box (by decide)
theorem MatS.lt {mb B:Nat} {W:World} {next:Int} {vq:Value} {l:List Od} {t:Od} {vt:Value} {ts:List Ev} (h:MatS mb B W next vq l t vt ts):mb < W.heap.size:=by
 obtain ⟨xF,h⟩:=h.box
 exact (yZ.1 h).1
theorem eM {B B' e e' sz sz' n n':Nat} {v v':Value} {xs xs':List Value} {w:World} (h:w.ownsRow B e sz v n xs) (h':w.ownsRow B' e' sz' v' n' xs') (xD:e ≠ e'):v.ownBlock = none ∨ v.ownBlock ≠ v'.ownBlock:=by
 rcases h.2 with ⟨rfl,_⟩ | ⟨g,cap,xF,rfl,E,hgg,rest⟩
 ·exact .inl rfl
 ·refine .inr ?_
  rcases h'.2 with ⟨rfl,_⟩ | ⟨g',uB,cur',rfl,hb',hgg',rest'⟩
  ·simp [Value.ownBlock]
  ·intro e0
   simp only [Value.ownBlock,Option.some.injEq] at e0
   subst e0
   rw [hgg] at hgg'
   simp only [Option.some.injEq,Obj.cells.injEq] at hgg'
   exact xD hgg'.2.1
theorem trade_any (mb B:Nat) (next:Int) (vq:Value) (l:List Od) (t:Od) (vt:Value) (ts:List Ev) (o:Od) (k:Nat) (w:World) (h:MatS mb B w next vq l t vt ts)
  (hk:plc l o.id = k) (hc:l[k]? = some o) (hn:l.length ≤ 1000) (hts:ts.length ≤ 1000) (ht0:0 ≤ t.left) (ht1:t.left ≤ 1000000) (ho0:0 ≤ o.left) (kK:o.left ≤ 1000000) (qty:Int) (hq:qty = min t.left o.left) :
  Calls Tryz.prog 217 #[J mb 0,.agg (yx o.id o.side o.ticks o.left o.life o.tag).toArray] w fun e w' =>
   ∃ uE vt',e = yn (.tuple #[])∧MatS mb B w' next uE (aN l k o qty) { t with left:=t.left - qty } vt' (ts ++ [trE t.id o.id qty o.ticks])∧KeptBut mb B w w':=by
 obtain ⟨uJ,vg,xC,xM,vf,qu⟩:=o
 simp only at *
 have HM:=H h
 have hmw:=h.lt
 have vW:=h.le
 have hnq:=h.nq
 have hnt:=h.nt
 have ue:Hid (yp w (w.alloc (L (yx uJ vg xC xM vf qu).toArray 78))):=fw _ _
 have jv:=zc h.cells (U ue) hmw
 have oH:=zn w (yx uJ vg xC xM vf qu) 78
 have y5:=jv 5 _ rfl
 have z3:=oH 3 _ rfl
 simp only [Nat.zero_add] at y5 z3
 have vz:=H jv
 have HF1:=H oH
 have HK:=H hk
 have HC:=H hc
 have HQ:=H hq
 clear h jv oH hk hc hq
 go_enter Tryz.func217,Tryz.ntmps217
 go_wp2_with fail
 have HF1:Hid (World.rangeAt (w.alloc (L (yx uJ vg xC xM vf qu).toArray 78)) w.heap.size 0 (yx uJ vg xC xM vf qu)):=U HF1
 have z3:World.cell? (w.alloc (L (yx uJ vg xC xM vf qu).toArray 78)) (yr w 3) = some (I xM):=z3
 generalize (w.alloc (L (yx uJ vg xC xM vf qu).toArray 78)) = W1 at ue vz HF1 y5 z3 ⊢
 have hmin:∀ W,(Builtin.min_ #[3,3] 3 #[I t.left,I xM]).run Tryz.prog W = .ok (I qty) W:=fun W=>by
  rw [U HQ]
  by_cases qj:t.left ≤ xM
  ·rw [Int.min_eq_left qj]; go_simp; omega
  ·rw [Int.min_eq_right (by omega)]; go_simp
 go_quiet (fail)
 go_wp2_with fail
 have hB0:Hid (yp w (W1.drewN nq)):=zV (U ue) nq
 have hM:Hid ((W1.drewN nq).rangeAt mb 0 [I next,vq,I t.id,I t.side,I t.ticks,I t.left,I t.life,yl t.tag,vt]):=U vz
 have hFF:Hid ((W1.drewN nq).rangeAt w.heap.size 0 (yx uJ vg xC xM vf qu)):=U HF1
 have hT9:Hid ((W1.drewN nq).there mb 0 9):=zo (U HM).there (U hB0) hmw
 have HROW:Hid (ERow (W1.drewN nq) B vt ts):=cN (U HM).erow (U hB0)
 have qB:Hid (∃ xF,(W1.drewN nq).heap[mb]? = some (.cells xF 254 (0,0))):=by obtain ⟨xF,hc⟩:=(U HM).box; exact ⟨xF,((U hB0).block mb hmw).trans hc⟩
 have HORO:Hid (ORow (W1.drewN nq) B vq l):=zM (U HM).orow (U hB0)
 have xK:w.heap.size < (W1.drewN nq).heap.size:=yL (W1.drewN nq) (yr w (0 + 0)) (U hFF 0 _ rfl)
 clear y5 z3 hmin vz HF1 ue
 generalize W1.drewN nq = W0 at hB0 hM hFF hT9 HROW HORO qB xK ⊢
 have HM8:Hid (W0.cell? (Q mb 8) = some vt):=U hM 8 _ rfl
 have xR:Hid (W0.cell? (Q mb 2) = some (I t.id)):=U hM 2 _ rfl
 have HF0:Hid (W0.cell? (yr w 0) = some (I uJ)):=U hFF 0 _ rfl
 have vC:Hid (W0.cell? (yr w 2) = some (I xC)):=U hFF 2 _ rfl
 have HF8:Hid (W0.frozen? (Q mb 8) = false):=by have:=(U hT9 8 (by omega)).2; rwa [Nat.zero_add] at this
 have hmw0:mb < W0.heap.size:=by omega
 have hBW0:B ≤ W0.heap.size:=by omega
 obtain ⟨i0,vA,uH,uI,uW⟩:=info_parts infoEv
 refine zm (RT (fun hj=>yp W0 hj) (fun f=>{ tmps:=#[J mb 0,.agg (yx uJ vg xC xM vf qu).toArray,M,yq w 0,I qty,J mb 0,J mb 0,J mb 2,J mb 5,I t.left,yq w 3,I xM,I qty,f 0,f 1,f 2,f 3,f 4,f 5,f 6,f 7,f 8,f 9,f 10,f 11,f 12,f 13,f 14,f 15,f 16,f 17,f 18,f 19,M,M,M,M,M,M,M,M,M,M,M,M,M,M,M,M,M],defers:=[] }) 17 20 (DT mb w.heap.size B W0 vt ts t.id uJ qty xC)) (by kernel_rfl) ?_ ?_ ?_
 ·exact ⟨fun _=>M,rfl,fun _=>⟨rfl,rfl,rfl,Nat.le_refl _,fun _ _=>rfl⟩,fun j V=>by rw [yJ] at V; split at V <;> simp at V⟩
 ·rintro x cs hj ⟨f,rfl,-,hD⟩ hx xO
  have xq:=zN xO hx (acyc _ (by kernel_rfl))
  have ph:x[17]? = some true:=xq 17 (by simp)
  have k20:x[20]? = some true:=xq 20 (by simp)
  obtain ⟨va,vc,-,-,-,qy⟩:=hD 17 ph
  obtain ⟨q1,q2,q3⟩:=qy k20
  have jk:Hid (_∧_∧_):=⟨q1,q2,q3⟩
  clear hD xq xO hx ph k20 qy q1 q2 q3
  dsimp only
  generalize f 17 = v17 at jk ⊢
  generalize f 0 = a0,f 1 = a1,f 2 = a2,f 3 = a3,f 4 = a4,f 5 = a5,f 6 = a6,f 7 = a7,f 8 = a8,f 9 = a9,f 10 = a10,f 11 = a11,f 12 = a12,f 13 = a13,f 14 = a14,f 15 = a15,f 16 = a16,f 18 = a18,f 19 = a19
  obtain ⟨q1,q2,q3⟩:=U jk
  have hvtB:∀ g,vt.ownBlock = some g→B ≤ g∧g < w.heap.size:=(U HM).erow.lt
  have z0:hj.cell? (yr w 0) = some (I uJ):=(yR (a:=(yr w 0)) (q3.block w.heap.size xK (by omega) (fun e=>by have:=hvtB _ e.symm; omega))).trans (U HF0)
  have y5:hj.cell? (Q mb 5) = some (I t.left):=(q3.cell 5 (by omega)).trans (U hM 5 _ rfl)
  have f5:hj.frozen? (Q mb 5) = false:=(q3.frozen 5).trans (by have:=(U hT9 5 (by omega)).2; rwa [Nat.zero_add] at this)
  have hwr:IntKind.i64.wrap (t.left - qty) = t.left - qty:=by rw [IntKind.wrap_i64]; have:=U HQ; omega
  have hbxV:∃ xF,hj.heap[mb]? = some (.cells xF 254 (0,0)):=by obtain ⟨xF,hc⟩:=U qB; exact q3.kind _ _ _ hc
  have hn17:some mb ≠ v17.ownBlock:=bU q2 hbxV (by decide)
  have HBX2:Hid (∃ xF,(hj.setCell (Q mb 5) (I (t.left - qty))).drew.heap[mb]? = some (.cells xF 254 (0,0))):=by obtain ⟨xF,hc⟩:=hbxV; exact bN hj mb 5 _ hc
  have hms2:mb < (hj.setCell (Q mb 5) (I (t.left - qty))).drew.heap.size:=by
   have:=q3.size
   show mb < (hj.setCell (Q mb 5) (I (t.left - qty))).heap.size
   simp [World.setCell]; omega
  have q4:ORow hj B vq l:=row_took (U HORO) q3 hnq (eM (U HORO) (U HROW) (by decide))
  have Z0:(hj.setCell (Q mb 5) (I (t.left - qty))).drew.cell? (yr w 0) = some (I uJ):=(yM _ _ _ _ (fun e=>by have:=congrArg Addr.block e; simp at this; omega)).trans z0
  have jA:Hid (ORow (hj.setCell (Q mb 5) (I (t.left - qty))).drew B vq l):=bd q4 hnq 5 _
  have HE2:Hid (ERow (hj.setCell (Q mb 5) (I (t.left - qty))).drew B v17 (ts ++ [trE t.id uJ qty xC])):=bd q2 (bU q2 hbxV (by decide)) 5 _
  have HC5:Hid ((hj.setCell (Q mb 5) (I (t.left - qty))).drew.cell? (Q mb 5) = some (I (t.left - qty))):=yN _ _ _ y5
  have uw:Hid (∀ j,j ≠ 5→(hj.setCell (Q mb 5) (I (t.left - qty))).drew.cell? (Q mb j) = hj.cell? (Q mb j)):=fun j V=>yM _ _ _ _ (bY (fun e=>V e.symm))
  have HFR:Hid (∀ j,(hj.setCell (Q mb 5) (I (t.left - qty))).drew.frozen? (Q mb j) = hj.frozen? (Q mb j)):=fun j=>World.frozen?_setCell _ _ _ _
  have xU:Hid (KeptBut mb B w (hj.setCell (Q mb 5) (I (t.left - qty))).drew):=kept_drew (df (df (eH (U hB0) (by omega)) (kept_took q3 (by omega) (fun g hg=>(hvtB g hg).1))) (kept_set hj 5 _))
  have uf:B ≤ (hj.setCell (Q mb 5) (I (t.left - qty))).drew.heap.size:=by
   have:=q3.size
   show B ≤ (hj.setCell (Q mb 5) (I (t.left - qty))).heap.size
   simp [World.setCell]; omega
  clear q2 q4 jk hbxV
  have Q1:=H q1
  have Q3:=H q3
  clear q1 q3 z0
  go_wp2_with fail
  generalize og:hj.setCell (Q mb 5) (I (t.left - qty)) = V2 at Z0 jA HE2 HC5 uw HFR xU uf HBX2 hms2 ⊢
  clear og y5 f5 hwr
  refine zE 6 (by kernel_rfl) (by kernel_rfl) ?_
  simp only [yU,List.take_zero,yV,List.drop_zero]
  repeat still_step
  refine wpStill_nil ?_
  go_wp2_with fail
  refine (et mb 0 B next uJ qty vq l k ⟨uJ,vg,xC,xM,vf,qu⟩ _ ((U uw 0 (by omega)).trans (((U Q3).cell 0 (by omega)).trans (U hM 0 _ rfl))) ((U uw 1 (by omega)).trans (((U Q3).cell 1 (by omega)).trans (U hM 1 _ rfl))) ((U HFR 1).trans (((U Q3).frozen 1).trans (by have:=(U hT9 1 (by omega)).2; rwa [Nat.zero_add] at this))) (U jA) hnq hms2 uf hn (U HK) (U HC) (by have:=U HQ; omega) (by have:=U HQ; show qty ≤ xM; omega) kK).mono ?_
  rintro e w9 ⟨uE,rfl,jn,kL,aK⟩
  have HC1:=H jn
  have HO9:=H kL
  have HT9:=H aK
  clear jn kL aK
  go_wp2_with fail
  go_end0
  have xt:∀ j,j ≠ 1→j ≠ 5→j ≠ 8→w9.cell? (Q mb j) = W0.cell? (Q mb j):=fun j N h5 h8=>((U HT9).cell j (by omega)).trans ((U uw j h5).trans ((U Q3).cell j (by omega)))
  have xV:w9.rangeAt mb 0 [I next,uE,I t.id,I t.side,I t.ticks,I (t.left - qty),I t.life,yl t.tag,v17]:=by
   intro j u V
   rw [Nat.zero_add]
   match j,V with
   | 0,V=>cases V; exact (xt 0 (by omega) (by omega) (by omega)).trans (U hM 0 _ rfl)
   | 1,V=>cases V; exact U HC1
   | 2,V=>cases V; exact (xt 2 (by omega) (by omega) (by omega)).trans (U hM 2 _ rfl)
   | 3,V=>cases V; exact (xt 3 (by omega) (by omega) (by omega)).trans (U hM 3 _ rfl)
   | 4,V=>cases V; exact (xt 4 (by omega) (by omega) (by omega)).trans (U hM 4 _ rfl)
   | 5,V=>cases V; exact ((U HT9).cell 5 (by omega)).trans (U HC5)
   | 6,V=>cases V; exact (xt 6 (by omega) (by omega) (by omega)).trans (U hM 6 _ rfl)
   | 7,V=>cases V; exact (xt 7 (by omega) (by omega) (by omega)).trans (U hM 7 _ rfl)
   | 8,V=>cases V; exact ((U HT9).cell 8 (by omega)).trans ((U uw 8 (by omega)).trans (U Q1))
   | j + 9,V=>simp at V
  refine ⟨uE,v17,rfl,⟨xV,fun j V=>⟨?_,?_⟩,U HO9,row_took (U HE2) (U HT9) hn17 (eM (U HE2) (U jA) (by decide)),by obtain ⟨xF,hc⟩:=U HBX2; exact (U HT9).kind _ _ _ hc,yO uf (U HT9).size⟩,df (U xU) (kept_took (U HT9) uf (fun g hg=>((U jA).lt g hg).1))⟩
  ·match j,V with
   | 0,_=>exact Option.isSome_iff_exists.2 ⟨_,xV 0 _ rfl⟩
   | 1,_=>exact Option.isSome_iff_exists.2 ⟨_,xV 1 _ rfl⟩
   | 2,_=>exact Option.isSome_iff_exists.2 ⟨_,xV 2 _ rfl⟩
   | 3,_=>exact Option.isSome_iff_exists.2 ⟨_,xV 3 _ rfl⟩
   | 4,_=>exact Option.isSome_iff_exists.2 ⟨_,xV 4 _ rfl⟩
   | 5,_=>exact Option.isSome_iff_exists.2 ⟨_,xV 5 _ rfl⟩
   | 6,_=>exact Option.isSome_iff_exists.2 ⟨_,xV 6 _ rfl⟩
   | 7,_=>exact Option.isSome_iff_exists.2 ⟨_,xV 7 _ rfl⟩
   | 8,_=>exact Option.isSome_iff_exists.2 ⟨_,xV 8 _ rfl⟩
   | j + 9,h=>omega
  ·have:=(U hT9 j V).2
   rw [Nat.zero_add] at this ⊢
   exact ((U HT9).frozen j).trans ((U HFR j).trans (((U Q3).frozen j).trans this))
 ·rintro x cs hj i op ⟨f,rfl,pu,hD⟩ X hx Z xr D
  have qc:=H pu
  have HD:=H hD
  have kH:i < 17→0 < i→¬ x[17]? = some true:=fun xJ qJ qY=>by
   have h16:=yh X 17 rfl qY 16 rfl
   have h4:=yh X 17 rfl qY 4 rfl
   have vR:=yh X 16 rfl h16 15 rfl
   have h9:=yh X 15 rfl vR 9 rfl
   have uR:=yh X 15 rfl vR 11 rfl
   have uK:=yh X 15 rfl vR 12 rfl
   have oD:=yh X 15 rfl vR 14 rfl
   have h8:=yh X 9 rfl h9 8 rfl
   have h7:=yh X 8 rfl h8 7 rfl
   have h6:=yh X 7 rfl h7 6 rfl
   have h5:=yh X 6 rfl h6 5 rfl
   have uV:=yh X 11 rfl uR 10 rfl
   have jN:=yh X 14 rfl oD 13 rfl
   have h3:=yh X 4 rfl h4 3 rfl
   have Y:=yh X 3 rfl h3 2 rfl
   have N:=yh X 2 rfl Y 1 rfl
   have vK:∀ j,0 < j→j < 17→x[j]? = some true:=fun j hj0 V=>by
    rcases (by omega:j = 1 ∨ j = 2 ∨ j = 3 ∨ j = 4 ∨ j = 5 ∨ j = 6 ∨ j = 7 ∨ j = 8 ∨ j = 9 ∨ j = 10 ∨ j = 11 ∨ j = 12 ∨ j = 13 ∨ j = 14 ∨ j = 15 ∨ j = 16) with rfl | rfl | rfl | rfl | rfl | rfl | rfl | rfl | rfl | rfl | rfl | rfl | rfl | rfl | rfl | rfl <;> assumption
   rw [vK i qJ xJ] at xr; cases xr
  have n20':i < 20→¬ x[20]? = some true:=fun xJ h20=>by
   have h19:=yh X 20 rfl h20 19 rfl
   have qY:=yh X 20 rfl h20 17 rfl
   have pq:=yh X 19 rfl h19 18 rfl
   have h16:=yh X 17 rfl qY 16 rfl
   have h4:=yh X 17 rfl qY 4 rfl
   have vR:=yh X 16 rfl h16 15 rfl
   have h9:=yh X 15 rfl vR 9 rfl
   have uR:=yh X 15 rfl vR 11 rfl
   have uK:=yh X 15 rfl vR 12 rfl
   have oD:=yh X 15 rfl vR 14 rfl
   have h8:=yh X 9 rfl h9 8 rfl
   have h7:=yh X 8 rfl h8 7 rfl
   have h6:=yh X 7 rfl h7 6 rfl
   have h5:=yh X 6 rfl h6 5 rfl
   have uV:=yh X 11 rfl uR 10 rfl
   have jN:=yh X 14 rfl oD 13 rfl
   have h3:=yh X 4 rfl h4 3 rfl
   have Y:=yh X 3 rfl h3 2 rfl
   have N:=yh X 2 rfl Y 1 rfl
   have h0:=yh X 18 rfl pq 0 rfl
   have vK:∀ j,j < 20→x[j]? = some true:=fun j V=>by
    rcases (by omega:j = 0 ∨ j = 1 ∨ j = 2 ∨ j = 3 ∨ j = 4 ∨ j = 5 ∨ j = 6 ∨ j = 7 ∨ j = 8 ∨ j = 9 ∨ j = 10 ∨ j = 11 ∨ j = 12 ∨ j = 13 ∨ j = 14 ∨ j = 15 ∨ j = 16 ∨ j = 17 ∨ j = 18 ∨ j = 19) with rfl | rfl | rfl | rfl | rfl | rfl | rfl | rfl | rfl | rfl | rfl | rfl | rfl | rfl | rfl | rfl | rfl | rfl | rfl | rfl <;> assumption
   rw [vK i xJ] at xr; cases xr
  have xm:∀ (b o:Nat) (u:Value),W0.cell? (Q b o) = some u→¬ x[17]? = some true→hj.cell? (Q b o) = some u:=fun b o u hu hn17=>((pu hn17).cell (p:=(Q b o)) (yL W0 _ hu)).trans hu
  clear pu X
  match i,Z with
  | 0,Z | 1,Z | 5,Z =>
   obtain rfl:=yc Z
   clear D hD
   rw [if_pos (by rfl)];unfold Oper.wp;go_simp
   exact ⟨upd f _ (J mb 0),by simp [upd],zT (U HD) (by decide) (by decide) (fun _ _ h=>h) (U qc) rfl⟩
  | 2,Z =>
   obtain rfl:=yc Z
   have g:f 1 = J mb 0:=hD 1 (yf D 1 rfl)
   clear D hD
   rw [if_pos (by rfl)];unfold Oper.wp;go_simp
   exact ⟨upd f 2 (J mb 0),by simp [upd,g],zT (U HD) (by decide) (by decide) (fun _ _ h=>h) (U qc) rfl⟩
  | 3,Z =>
   obtain rfl:=yc Z
   have g:f 2 = J mb 0:=hD 2 (yf D 2 rfl)
   clear D hD
   rw [if_pos (by rfl)];unfold Oper.wp;go_simp
   exact ⟨upd f 3 (J mb 8),by simp [upd,g],zT (U HD) (by decide) (by decide) (fun _ _ h=>h) (U qc) rfl⟩
  | 4,Z =>
   obtain rfl:=yc Z
   have g:f 3 = J mb 8:=hD 3 (yf D 3 rfl)
   have jp:=kH (by omega) (by omega)
   have y8:=xm mb 8 _ (U HM8) jp
   clear D hD
   rw [if_pos (by rfl)];unfold Oper.wp;go_simp
   exact ⟨upd f 4 (vt),by simp [upd,g],zT (U HD) (by decide) (by decide) (fun _ _ h=>h) (U qc) rfl⟩
  | 6,Z =>
   obtain rfl:=yc Z
   have g:f 5 = J mb 0:=hD 5 (yf D 5 rfl)
   clear D hD
   rw [if_pos (by rfl)];unfold Oper.wp;go_simp
   exact ⟨upd f 6 (J mb 0),by simp [upd,g],zT (U HD) (by decide) (by decide) (fun _ _ h=>h) (U qc) rfl⟩
  | 7,Z =>
   obtain rfl:=yc Z
   have g:f 6 = J mb 0:=hD 6 (yf D 6 rfl)
   clear D hD
   rw [if_pos (by rfl)];unfold Oper.wp;go_simp
   exact ⟨upd f 7 (J mb 2),by simp [upd,g],zT (U HD) (by decide) (by decide) (fun _ _ h=>h) (U qc) rfl⟩
  | 8,Z =>
   obtain rfl:=yc Z
   have g:f 7 = J mb 2:=hD 7 (yf D 7 rfl)
   clear D hD
   rw [if_pos (by rfl)];unfold Oper.wp;go_simp
   exact ⟨upd f 8 (J mb 2),by simp [upd,g],zT (U HD) (by decide) (by decide) (fun _ _ h=>h) (U qc) rfl⟩
  | 9,Z =>
   obtain rfl:=yc Z
   have g:f 8 = J mb 2:=hD 8 (yf D 8 rfl)
   have jp:=kH (by omega) (by omega)
   have y2:=xm mb 2 _ (U xR) jp
   clear D hD
   rw [if_pos (by rfl)];unfold Oper.wp;go_simp
   exact ⟨upd f 9 (I t.id),by simp [upd,g],zT (U HD) (by decide) (by decide) (fun _ _ h=>h) (U qc) rfl⟩
  | 10,Z =>
   obtain rfl:=yc Z
   clear D hD
   rw [if_pos (by rfl)];unfold Oper.wp;go_simp
   exact ⟨upd f 10 (yq w 0),by simp [upd],zT (U HD) (by decide) (by decide) (fun _ _ h=>h) (U qc) rfl⟩
  | 11,Z =>
   obtain rfl:=yc Z
   have g:f 10 = yq w 0:=hD 10 (yf D 10 rfl)
   have jp:=kH (by omega) (by omega)
   have z0:=xm w.heap.size 0 _ (U HF0) jp
   clear D hD
   rw [if_pos (by rfl)];unfold Oper.wp;go_simp
   exact ⟨upd f 11 (I uJ),by simp [upd,g],zT (U HD) (by decide) (by decide) (fun _ _ h=>h) (U qc) rfl⟩
  | 12,Z =>
   obtain rfl:=yc Z
   clear D hD
   rw [if_pos (by rfl)];unfold Oper.wp;go_simp
   exact ⟨upd f 12 (I qty),by simp [upd],zT (U HD) (by decide) (by decide) (fun _ _ h=>h) (U qc) rfl⟩
  | 13,Z =>
   obtain rfl:=yc Z
   clear D hD
   rw [if_pos (by rfl)];unfold Oper.wp;go_simp
   exact ⟨upd f 13 (yq w 2),by simp [upd],zT (U HD) (by decide) (by decide) (fun _ _ h=>h) (U qc) rfl⟩
  | 14,Z =>
   obtain rfl:=yc Z
   have g:f 13 = yq w 2:=hD 13 (yf D 13 rfl)
   have jp:=kH (by omega) (by omega)
   have z2:=xm w.heap.size 2 _ (U vC) jp
   clear D hD
   rw [if_pos (by rfl)];unfold Oper.wp;go_simp
   exact ⟨upd f 14 (I xC),by simp [upd,g],zT (U HD) (by decide) (by decide) (fun _ _ h=>h) (U qc) rfl⟩
  | 15,Z =>
   obtain rfl:=yc Z
   have g9:f 9 = I t.id:=hD 9 (yf D 9 rfl)
   have vE:f 11 = I uJ:=hD 11 (yf D 11 rfl)
   have ua:f 12 = I qty:=hD 12 (yf D 12 rfl)
   have je:f 14 = I xC:=hD 14 (yf D 14 rfl)
   clear D hD
   rw [if_pos (by rfl)];unfold Oper.wp;go_simp
   exact ⟨upd f 15 (evV (trE t.id uJ qty xC)),by simp [upd,g9,vE,ua,je,evV,trE,zCm],zT (U HD) (by decide) (by decide) (fun _ _ h=>h) (U qc) rfl⟩
  | 16,Z =>
   obtain rfl:=yc Z
   have g:f 15 = evV (trE t.id uJ qty xC):=hD 15 (yf D 15 rfl)
   have jp:=kH (by omega) (by omega)
   have vj:=U qc jp
   clear D hD
   unfold evV trE at g
   rw [if_pos (by rfl)];unfold Oper.wp;go_simp
   refine ⟨upd f 16 (.slice (some (yr hj 0)) 1 1),by simp [upd,g],zT (U HD) (by decide) (by decide) (dt_alloc jp) (fun _=>vj.alloc vj.size _) ⟨hj.heap.size,rfl,fun _=>?_⟩⟩
   exact cellsT hj (trE t.id uJ qty xC) 52
  | 17,Z =>
   obtain rfl:=yc Z
   have g4:f 4 = vt:=hD 4 (yf D 4 rfl)
   obtain ⟨s,g16,kp⟩:=hD 16 (yf D 16 rfl)
   have jp:¬ x[17]? = some true:=by rw [xr]; simp
   have n20:=n20' (by omega)
   have vj:=U qc jp
   have uG:ERow hj B vt ts:=cN (U HROW) vj
   rw [if_pos (by rfl)]
   refine wp_append_own hj (.tmp 17) (.tmp 29) 36 rfl B 52 i0 _ 14 120 Tryz.underlying36 vA uH uI uW rfl (by decide) vt ts.length (ts.flatMap Ev.vs) g4 uG (Q s 0) 1 1 (trE t.id uJ qty xC).vs g16 rfl (kp jp) (one_ev _) (by unfold maxLen; omega) (by omega) (by have:=vj.size; omega) ?_
   intro v' w' xS vG _
   obtain ⟨ga,gc,rfl⟩:=row_sliceT xS (by omega)
   refine ⟨upd f 17 (.slice (some (Q ga 0)) (ts.length + 1) gc),rfl,rt_one (by decide) (U HD) xr n20 (fun j v V h=>dt_one j v V h) ⟨some (Q ga 0),gc,rfl,trivial,fun _=>⟨?_,?_⟩,fun h=>h.elim⟩⟩
   ·show World.ownsRow _ _ _ _ _ (ts ++ [trE t.id uJ qty xC]).length _
    rw [yQ,List.flatMap_append]; simpa using xS
   ·exact (cD vj yb).trans vG
  | 18,Z =>
   obtain rfl:=yc Z
   have g:f 0 = J mb 0:=hD 0 (yf D 0 rfl)
   clear D hD
   rw [if_pos (by rfl)];unfold Oper.wp;go_simp
   exact ⟨upd f 18 (J mb 0),by simp [upd,g],zT (U HD) (by decide) (by decide) (fun _ _ h=>h) (U qc) rfl⟩
  | 19,Z =>
   obtain rfl:=yc Z
   have g:f 18 = J mb 0:=hD 18 (yf D 18 rfl)
   clear D hD
   rw [if_pos (by rfl)];unfold Oper.wp;go_simp
   exact ⟨upd f 19 (J mb 8),by simp [upd,g],zT (U HD) (by decide) (by decide) (fun _ _ h=>h) (U qc) rfl⟩
  | 20,Z =>
   obtain rfl:=yc Z
   have g19:f 19 = J mb 8:=hD 19 (yf D 19 rfl)
   have ph:x[17]? = some true:=D ⟨17,.data⟩ (by simp) rfl
   have n20:¬ x[20]? = some true:=by rw [xr]; simp
   obtain ⟨ga,gc,g17,-,hfa,-⟩:=hD 17 ph
   obtain ⟨her,vG⟩:=hfa n20
   have ot:some mb ≠ vt.ownBlock:=hnt
   have y8:=vG.cell (U HM8) ot
   have f8:hj.frozen? (Q mb 8) = false:=(World.frozen?_of_block (a:=(Q mb 8)) (vG.block mb (by omega) ot)).trans (U HF8)
   have ar:=H (g17 ▸ her)
   have HBXV:Hid (∃ xF,hj.heap[mb]? = some (.cells xF 254 (0,0))):=by obtain ⟨xF,hc⟩:=U qB; exact ⟨xF,(vG.block mb (by omega) ot).trans hc⟩
   have HGR:=H vG
   clear D hD her vG hfa
   rw [if_pos (by rfl)];unfold Oper.wp;go_simp
   refine ⟨upd f 20 M,by simp [upd,g19,g17],rt_two (by decide) (U HD) ph xr (fun j V hxj h=>dt_two j V h (fun hj17=>?_)) trivial⟩
   subst hj17
   obtain ⟨-,-,-,-,-,-⟩:=h
   refine ⟨ga,gc,g17,trivial,fun h=>absurd trivial h,fun _=>?_⟩
   rw [g17]
   refine ⟨yN _ _ _ y8,bd (U ar) (bU (U ar) (U HBXV) (by decide)) 8 _,?_⟩
   exact dh (cO (U HGR) (by omega) ot) (took_set (o:=7) _ _)
  | i + 21,Z=>simp at Z
end Go.Proofs.YtnphbkgfjanmgaaGreatDoor
