/-
  A trade told behind the others, by the program: the row of trades through the pointer; proved by walking the region.
-/
import Derived.Test.YtbakanofkghmiaaGreatQj13
set_option linter.unusedVariables false
set_option maxHeartbeats 6400000
set_option maxRecDepth 100000
namespace Go.Proofs.YtbakanofkghmiaaGreat
open Go.RowKit
def trE (uC pD qty pE:Int):Ev:=⟨3,zCm,uC,pD,qty,pE,0⟩
abbrev ERow (W:World) (B:Nat) (v:Value) (l:List Ev):Prop:=W.ownsRow B 46 14 v l.length (l.flatMap Ev.vs)
theorem infoEv:(Tryz.prog.info? 46).map (fun i=>(i.zero,i.size,i.bytes)) = some (some (.agg (yv 0 0 0 0 0 0 0 0 ⟨#[]⟩ 0 0 0 0 0).toArray),14,120):=by kernel_rfl
theorem one_ev (e:Ev):∀ u ∈ e.vs,u.oneCell' = true:=by
 intro u hu
 simp [Ev.vs] at hu
 rcases hu with rfl | rfl | rfl | rfl | rfl | rfl | rfl | rfl | rfl | rfl | rfl | rfl | rfl | rfl <;> rfl
theorem zJ {W W':World} {B:Nat} {v:Value} {l:List Ev} (h:ERow W B v l) (X:yn W W'):ERow W' B v l :=
 World.ownsRow.kept h (row:=none) (aW X tg) (by cases v.ownBlock <;> simp)
theorem cO {W:World} {B:Nat} {v:Value} {l:List Ev} (h:ERow W B v l) {b:Nat} (X:b < B) (o:Nat) (u:Value):ERow (W.setCell (J b o) u) B v l :=
 ownsRow_setCell_below h (a:=(J b o)) X u
theorem dM {W:World} {B e sz n:Nat} {v:Value} {xs:List Value} (h:W.ownsRow B e sz v n xs) (hn:0 < n):∃ g c,v = .slice (some (J g 0)) n c:=by
 rcases h.2 with ⟨_,h0⟩ | ⟨g,A,_,Q,_⟩
 ·omega
 ·exact ⟨g,A,Q⟩
theorem cellsT (W:World) (e:Ev) (t:TypeId):∀ j u,e.vs[j]? = some u→(W.alloc (Obj.cells e.vs.toArray t)).cell? (((yq W 0):Addr).add j) = some u:=fun j u h=>cy W e.vs t j u h
def DT (mb fb B:Nat) (W0:World) (vt:Value) (ts:List Ev) (uC pD qty pE:Int) (p q:Prop) (V:World):Nat→Value→Prop
 | 0,v=>v = I mb 0
 | 1,v=>v = I mb 0
 | 2,v=>v = I mb 0
 | 3,v=>v = I mb 8
 | 4,v=>v = vt
 | 5,v=>v = I mb 0
 | 6,v=>v = I mb 0
 | 7,v=>v = I mb 2
 | 8,v=>v = I mb 2
 | 9,v=>v = H uC
 | 10,v=>v = I fb 0
 | 11,v=>v = H pD
 | 12,v=>v = H qty
 | 13,v=>v = I fb 2
 | 14,v=>v = H pE
 | 15,v=>v = evV (trE uC pD qty pE)
 | 16,v=>∃ s,v = .slice (some (J s 0)) 1 1∧(¬ p→∀ j u,(trE uC pD qty pE).vs[j]? = some u→V.cell? (((J s 0):Addr).add j) = some u)
 | 17,v=>∃ a c,v = .slice a (ts.length + 1) c∧p∧(¬ q→ERow V B v (ts ++ [trE uC pD qty pE])∧W0.grownBy V vt.ownBlock)∧(q→V.cell? (J mb 8) = some v∧ERow V B v (ts ++ [trE uC pD qty pE])∧TookAt mb 7 vt.ownBlock W0 V)
 | 18,v=>v = I mb 0
 | 19,v=>v = I mb 8
 | _,_=>True
section
variable {mb fb B:Nat} {W0 V V':World} {vt:Value} {ts:List Ev} {uC pD qty pE:Int} {p q:Prop}
theorem dt_alloc {o:Obj} (hp:¬ p):∀ j v,DT mb fb B W0 vt ts uC pD qty pE p q V j v→DT mb fb B W0 vt ts uC pD qty pE p q (V.alloc o) j v:=by
 intro j v h
 match j with
 | 0 | 1 | 2 | 3 | 4 | 5 | 6 | 7 | 8 | 9 | 10 | 11 | 12 | 13 | 14 | 15 | 18 | 19=>exact h
 | 16 =>
  obtain ⟨s,Q,N⟩:=h
  exact ⟨s,Q,fun hp j u hu=>(yW _ _ _ (yL V _ (N hp j u hu))).trans (N hp j u hu)⟩
 | 17=>obtain ⟨_,_,_,N,_⟩:=h; exact absurd N hp
 | j + 20=>trivial
theorem dt_one:∀ j v,j ≠ 17→DT mb fb B W0 vt ts uC pD qty pE False False V j v→DT mb fb B W0 vt ts uC pD qty pE True False V' j v:=by
 intro j v R h
 match j with
 | 0 | 1 | 2 | 3 | 4 | 5 | 6 | 7 | 8 | 9 | 10 | 11 | 12 | 13 | 14 | 15 | 18 | 19=>exact h
 | 16 =>
  obtain ⟨s,Q,N⟩:=h
  exact ⟨s,Q,fun hp=>absurd trivial hp⟩
 | 17=>exact absurd rfl R
 | j + 20=>trivial
theorem dt_two {v:Value}:∀ j,j ≠ 20→DT mb fb B W0 vt ts uC pD qty pE True False V j v→(j = 17→DT mb fb B W0 vt ts uC pD qty pE True True V' 17 v)→DT mb fb B W0 vt ts uC pD qty pE True True V' j v:=by
 intro j R h kG
 match j with
 | 0 | 1 | 2 | 3 | 4 | 5 | 6 | 7 | 8 | 9 | 10 | 11 | 12 | 13 | 14 | 15 | 18 | 19=>exact h
 | 16 =>
  obtain ⟨s,Q,N⟩:=h
  exact ⟨s,Q,fun hp=>absurd trivial hp⟩
 | 17=>exact kG rfl
 | j + 20=>trivial
end
structure MatS (mb B:Nat) (W:World) (next:Int) (vq:Value) (l:List Od) (t:Od) (vt:Value) (ts:List Ev):Prop where
 cells:W.rangeAt mb 0 [.int .i64 next,vq,.int .i64 t.id,.int .i64 t.side,.int .i64 t.ticks,.int .i64 t.left,.int .i64 t.life,.string t.tag,vt]
 there:W.there mb 0 9
 orow:ORow W B vq l
 erow:ERow W B vt ts
 box:∃ cur,W.heap[mb]? = some (.cells cur 157 (0,0))
 le:B ≤ W.heap.size
structure KeptBut (mb B:Nat) (w w':World):Prop where
 os:w'.os = w.os
 tape:w'.tape = w.tape
 output:w'.output = w.output
 size:w.heap.size ≤ w'.heap.size
 block:∀ k,k < B→k ≠ mb→w'.heap[k]? = w.heap[k]?
theorem zk {mb B:Nat} {w w1 w2:World} (Q:KeptBut mb B w w1) (N:KeptBut mb B w1 w2):KeptBut mb B w w2 :=
 ⟨N.os.trans Q.os,N.tape.trans Q.tape,N.output.trans Q.output,yO Q.size N.size,fun k hk hm=>(N.block k hk hm).trans (Q.block k hk hm)⟩
theorem zC {mb B C:Nat} {w w1:World} (h:Below C w w1) (hC:B ≤ C):KeptBut mb B w w1 :=
 ⟨h.os,h.tape,h.output,h.size,fun k hk _=>h.block k (by omega)⟩
theorem cM {mb B o:Nat} {G:Option Nat} {w w1:World} (h:TookAt mb o G w w1) (hB:B ≤ w.heap.size) (hG:∀ g,G = some g→B ≤ g):KeptBut mb B w w1 :=
 ⟨h.os,h.tape,h.output,h.size,fun k hk hm=>h.block k (by omega) hm (fun e=>by have:=hG k e.symm; omega)⟩
theorem cP {mb B:Nat} (w:World) (o:Nat) (u:Value):KeptBut mb B w (w.setCell (J mb o) u) :=
 ⟨rfl,rfl,rfl,by simp [World.setCell],fun k _ hm=>yT _ _ _ _ hm⟩
theorem kept_drew {mb B:Nat} {w w1:World} (h:KeptBut mb B w w1):KeptBut mb B w w1.drew:=⟨h.os,h.tape,h.output,h.size,h.block⟩
theorem bi {p o B e sz n:Nat} {G:Option Nat} {v:Value} {xs:List Value} {w w':World} (h:w.ownsRow B e sz v n xs) (ht:TookAt p o G w w') (hp:some p ≠ v.ownBlock) (xB:v.ownBlock = none ∨ v.ownBlock ≠ G):w'.ownsRow B e sz v n xs:=by
 refine ⟨h.1,?_⟩
 rcases h.2 with hn | ⟨g,A,xu,rfl,X,kL,rest⟩
 ·exact .inl hn
 ·refine .inr ⟨g,A,xu,rfl,X,?_,rest⟩
  rw [ht.block g (yZ.1 kL).1 (by simpa [Value.ownBlock] using Ne.symm hp) (by simpa [Value.ownBlock] using xB)]
  exact kL
theorem zl {B e sz n b:Nat} {T:TypeId} {v:Value} {xs:List Value} {w:World} (h:w.ownsRow B e sz v n xs) (X:∃ xu,w.heap[b]? = some (.cells xu T (0,0))) (xB:T ≠ e):some b ≠ v.ownBlock:=by
 obtain ⟨cb,X⟩:=X
 rcases h.2 with ⟨rfl,_⟩ | ⟨g,A,xu,rfl,_,kL,rest⟩
 ·simp [Value.ownBlock]
 ·intro e0
  simp only [Value.ownBlock,Option.some.injEq] at e0
  subst e0
  rw [X] at kL
  simp only [Option.some.injEq,Obj.cells.injEq] at kL
  exact xB kL.2.1
theorem MatS.nq {mb B:Nat} {W:World} {next:Int} {vq:Value} {l:List Od} {t:Od} {vt:Value} {ts:List Ev} (h:MatS mb B W next vq l t vt ts):some mb ≠ vq.ownBlock:=zl h.orow h.box (by decide)
theorem MatS.nt {mb B:Nat} {W:World} {next:Int} {vq:Value} {l:List Od} {t:Od} {vt:Value} {ts:List Ev} (h:MatS mb B W next vq l t vt ts):some mb ≠ vt.ownBlock:=zl h.erow h.box (by decide)
theorem MatS.lt {mb B:Nat} {W:World} {next:Int} {vq:Value} {l:List Od} {t:Od} {vt:Value} {ts:List Ev} (h:MatS mb B W next vq l t vt ts):mb < W.heap.size:=by
 obtain ⟨xu,h⟩:=h.box
 exact (yZ.1 h).1
theorem zD {B B' e e' sz sz' n n':Nat} {v v':Value} {xs xs':List Value} {w:World} (h:w.ownsRow B e sz v n xs) (h':w.ownsRow B' e' sz' v' n' xs') (xB:e ≠ e'):v.ownBlock = none ∨ v.ownBlock ≠ v'.ownBlock:=by
 rcases h.2 with ⟨rfl,_⟩ | ⟨g,A,xu,rfl,X,kL,rest⟩
 ·exact .inl rfl
 ·refine .inr ?_
  rcases h'.2 with ⟨rfl,_⟩ | ⟨g',pB,cur',rfl,kw,hgg',rest'⟩
  ·simp [Value.ownBlock]
  ·intro e0
   simp only [Value.ownBlock,Option.some.injEq] at e0
   subst e0
   rw [kL] at hgg'
   simp only [Option.some.injEq,Obj.cells.injEq] at hgg'
   exact xB hgg'.2.1
theorem trade_any (mb B:Nat) (next:Int) (vq:Value) (l:List Od) (t:Od) (vt:Value) (ts:List Ev) (o:Od) (k:Nat) (w:World) (h:MatS mb B w next vq l t vt ts)
  (hk:plc l o.id = k) (hc:l[k]? = some o) (hn:l.length ≤ 1000) (hts:ts.length ≤ 1000) (ht0:0 ≤ t.left) (ht1:t.left ≤ 1000000) (ho0:0 ≤ o.left) (vZ:o.left ≤ 1000000) (qty:Int) (hq:qty = min t.left o.left) :
  Calls Tryz.prog 151 #[I mb 0,.agg (yw o.id o.side o.ticks o.left o.life o.tag).toArray] w fun e w' =>
   ∃ vu vt',e = ym (.tuple #[])∧MatS mb B w' next vu (aM l k o qty) { t with left:=t.left - qty } vt' (ts ++ [trE t.id o.id qty o.ticks])∧KeptBut mb B w w':=by
 obtain ⟨uN,uW,xy,xH,uV,qb⟩:=o
 simp only at *
 have HM:=Y h
 have qE:=h.lt
 have pF:=h.le
 have qJ:=h.nq
 have hnt:=h.nt
 have xU:Hid (yn w (w.alloc (E (yw uN uW xy xH uV qb).toArray 49))):=eE _ _
 have kl:=zb h.cells (U xU) qE
 have hf1:=zi w (yw uN uW xy xH uV qb) 49
 have y5:=kl 5 _ rfl
 have z3:=hf1 3 _ rfl
 simp only [Nat.zero_add] at y5 z3
 have jD:=Y kl
 have qz:=Y hf1
 have HK:=Y hk
 have HC:=Y hc
 have HQ:=Y hq
 clear h kl hf1 hk hc hq
 go_enter Tryz.func151,Tryz.ntmps151
 go_wp2_with fail
 have qz:Hid (World.rangeAt (w.alloc (E (yw uN uW xy xH uV qb).toArray 49)) w.heap.size 0 (yw uN uW xy xH uV qb)):=U qz
 have z3:World.cell? (w.alloc (E (yw uN uW xy xH uV qb).toArray 49)) (yq w 3) = some (H xH):=z3
 generalize (w.alloc (E (yw uN uW xy xH uV qb).toArray 49)) = W1 at xU jD qz y5 z3 ⊢
 have hmin:∀ W,(Builtin.min_ #[3,3] 3 #[H t.left,H xH]).run Tryz.prog W = .ok (H qty) W:=fun W=>by
  rw [U HQ]
  by_cases jI:t.left ≤ xH
  ·rw [Int.min_eq_left jI]; go_simp; omega
  ·rw [Int.min_eq_right (by omega)]; go_simp
 go_quiet (fail)
 go_wp2_with fail
 have hB0:Hid (yn w (W1.drewN nq)):=cU (U xU) nq
 have hM:Hid ((W1.drewN nq).rangeAt mb 0 [H next,vq,H t.id,H t.side,H t.ticks,H t.left,H t.life,yk t.tag,vt]):=U jD
 have hFF:Hid ((W1.drewN nq).rangeAt w.heap.size 0 (yw uN uW xy xH uV qb)):=U qz
 have hT9:Hid ((W1.drewN nq).there mb 0 9):=zg (U HM).there (U hB0) qE
 have vK:Hid (ERow (W1.drewN nq) B vt ts):=zJ (U HM).erow (U hB0)
 have uA:Hid (∃ xu,(W1.drewN nq).heap[mb]? = some (.cells xu 157 (0,0))):=by obtain ⟨xu,hc⟩:=(U HM).box; exact ⟨xu,((U hB0).block mb qE).trans hc⟩
 have jS:Hid (ORow (W1.drewN nq) B vq l):=zm (U HM).orow (U hB0)
 have xC:w.heap.size < (W1.drewN nq).heap.size:=yL (W1.drewN nq) (yq w (0 + 0)) (U hFF 0 _ rfl)
 clear y5 z3 hmin jD qz xU
 generalize W1.drewN nq = W0 at hB0 hM hFF hT9 vK jS uA xC ⊢
 have aw:Hid (W0.cell? (J mb 8) = some vt):=U hM 8 _ rfl
 have vC:Hid (W0.cell? (J mb 2) = some (H t.id)):=U hM 2 _ rfl
 have HF0:Hid (W0.cell? (yq w 0) = some (H uN)):=U hFF 0 _ rfl
 have HF2:Hid (W0.cell? (yq w 2) = some (H xy)):=U hFF 2 _ rfl
 have HF8:Hid (W0.frozen? (J mb 8) = false):=by have:=(U hT9 8 (by omega)).2; rwa [Nat.zero_add] at this
 have hmw0:mb < W0.heap.size:=by omega
 have hBW0:B ≤ W0.heap.size:=by omega
 obtain ⟨i0,uG,uF,uI,uT⟩:=info_parts infoEv
 refine zj (RT (fun V=>yn W0 V) (fun f=>{ tmps:=#[I mb 0,.agg (yw uN uW xy xH uV qb).toArray,M,yp w 0,H qty,I mb 0,I mb 0,I mb 2,I mb 5,H t.left,yp w 3,H xH,H qty,f 0,f 1,f 2,f 3,f 4,f 5,f 6,f 7,f 8,f 9,f 10,f 11,f 12,f 13,f 14,f 15,f 16,f 17,f 18,f 19,M,M,M,M,M,M,M,M,M,M,M,M,M,M,M,M,M],defers:=[] }) 17 20 (DT mb w.heap.size B W0 vt ts t.id uN qty xy)) (by kernel_rfl) ?_ ?_ ?_
 ·exact ⟨fun _=>M,rfl,fun _=>⟨rfl,rfl,rfl,Nat.le_refl _,fun _ _=>rfl⟩,fun j R=>by rw [yJ] at R; split at R <;> simp at R⟩
 ·rintro x xn V ⟨f,rfl,-,hD⟩ hx xN
  have xq:=zS xN hx (acyc _ (by kernel_rfl))
  have k17:x[17]? = some true:=xq 17 (by simp)
  have k20:x[20]? = some true:=xq 20 (by simp)
  obtain ⟨va,vc,-,-,-,vl⟩:=hD 17 k17
  obtain ⟨q1,q2,q3⟩:=vl k20
  have vr:Hid (_∧_∧_):=⟨q1,q2,q3⟩
  clear hD xq xN hx k17 k20 vl q1 q2 q3
  dsimp only
  generalize f 17 = v17 at vr ⊢
  generalize f 0 = a0,f 1 = a1,f 2 = a2,f 3 = a3,f 4 = a4,f 5 = a5,f 6 = a6,f 7 = a7,f 8 = a8,f 9 = a9,f 10 = a10,f 11 = a11,f 12 = a12,f 13 = a13,f 14 = a14,f 15 = a15,f 16 = a16,f 18 = a18,f 19 = a19
  obtain ⟨q1,q2,q3⟩:=U vr
  have hvtB:∀ g,vt.ownBlock = some g→B ≤ g∧g < w.heap.size:=(U HM).erow.lt
  have z0:V.cell? (yq w 0) = some (H uN):=(yR (a:=(yq w 0)) (q3.block w.heap.size xC (by omega) (fun e=>by have:=hvtB _ e.symm; omega))).trans (U HF0)
  have y5:V.cell? (J mb 5) = some (H t.left):=(q3.cell 5 (by omega)).trans (U hM 5 _ rfl)
  have f5:V.frozen? (J mb 5) = false:=(q3.frozen 5).trans (by have:=(U hT9 5 (by omega)).2; rwa [Nat.zero_add] at this)
  have hwr:IntKind.i64.wrap (t.left - qty) = t.left - qty:=by rw [IntKind.wrap_i64]; have:=U HQ; omega
  have hbxV:∃ xu,V.heap[mb]? = some (.cells xu 157 (0,0)):=by obtain ⟨xu,hc⟩:=U uA; exact q3.kind _ _ _ hc
  have hn17:some mb ≠ v17.ownBlock:=zl q2 hbxV (by decide)
  have HBX2:Hid (∃ xu,(V.setCell (J mb 5) (H (t.left - qty))).drew.heap[mb]? = some (.cells xu 157 (0,0))):=by obtain ⟨xu,hc⟩:=hbxV; exact zO V mb 5 _ hc
  have hms2:mb < (V.setCell (J mb 5) (H (t.left - qty))).drew.heap.size:=by
   have:=q3.size
   show mb < (V.setCell (J mb 5) (H (t.left - qty))).heap.size
   simp [World.setCell]; omega
  have q4:ORow V B vq l:=bi (U jS) q3 qJ (zD (U jS) (U vK) (by decide))
  have Z0:(V.setCell (J mb 5) (H (t.left - qty))).drew.cell? (yq w 0) = some (H uN):=(yM _ _ _ _ (fun e=>by have:=congrArg Addr.block e; simp at this; omega)).trans z0
  have vU:Hid (ORow (V.setCell (J mb 5) (H (t.left - qty))).drew B vq l):=zv q4 qJ 5 _
  have ah:Hid (ERow (V.setCell (J mb 5) (H (t.left - qty))).drew B v17 (ts ++ [trE t.id uN qty xy])):=zv q2 (zl q2 hbxV (by decide)) 5 _
  have km:Hid ((V.setCell (J mb 5) (H (t.left - qty))).drew.cell? (J mb 5) = some (H (t.left - qty))):=yN _ _ _ y5
  have HCO:Hid (∀ j,j ≠ 5→(V.setCell (J mb 5) (H (t.left - qty))).drew.cell? (J mb j) = V.cell? (J mb j)):=fun j R=>yM _ _ _ _ (zQ (fun e=>R e.symm))
  have HFR:Hid (∀ j,(V.setCell (J mb 5) (H (t.left - qty))).drew.frozen? (J mb j) = V.frozen? (J mb j)):=fun j=>World.frozen?_setCell _ _ _ _
  have xv:Hid (KeptBut mb B w (V.setCell (J mb 5) (H (t.left - qty))).drew):=kept_drew (zk (zk (zC (U hB0) (by omega)) (cM q3 (by omega) (fun g hg=>(hvtB g hg).1))) (cP V 5 _))
  have ua:B ≤ (V.setCell (J mb 5) (H (t.left - qty))).drew.heap.size:=by
   have:=q3.size
   show B ≤ (V.setCell (J mb 5) (H (t.left - qty))).heap.size
   simp [World.setCell]; omega
  clear q2 q4 vr hbxV
  have Q1:=Y q1
  have Q3:=Y q3
  clear q1 q3 z0
  go_wp2_with fail
  generalize kJ:V.setCell (J mb 5) (H (t.left - qty)) = V2 at Z0 vU ah km HCO HFR xv ua HBX2 hms2 ⊢
  clear kJ y5 f5 hwr
  refine ei 6 (by kernel_rfl) (by kernel_rfl) ?_
  simp only [yU,List.take_zero,yV,List.drop_zero]
  repeat still_step
  refine wpStill_nil ?_
  go_wp2_with fail
  refine (takeFrom_any mb 0 B next uN qty vq l k ⟨uN,uW,xy,xH,uV,qb⟩ _ ((U HCO 0 (by omega)).trans (((U Q3).cell 0 (by omega)).trans (U hM 0 _ rfl))) ((U HCO 1 (by omega)).trans (((U Q3).cell 1 (by omega)).trans (U hM 1 _ rfl))) ((U HFR 1).trans (((U Q3).frozen 1).trans (by have:=(U hT9 1 (by omega)).2; rwa [Nat.zero_add] at this))) (U vU) qJ hms2 ua hn (U HK) (U HC) (by have:=U HQ; omega) (by have:=U HQ; show qty ≤ xH; omega) vZ).mono ?_
  rintro e w9 ⟨vu,rfl,kW,ho9,ht9⟩
  have pY:=Y kW
  have HO9:=Y ho9
  have HT9:=Y ht9
  clear kW ho9 ht9
  go_wp2_with fail
  go_end0
  have xr:∀ j,j ≠ 1→j ≠ 5→j ≠ 8→w9.cell? (J mb j) = W0.cell? (J mb j):=fun j Q h5 h8=>((U HT9).cell j (by omega)).trans ((U HCO j h5).trans ((U Q3).cell j (by omega)))
  have vA:w9.rangeAt mb 0 [H next,vu,H t.id,H t.side,H t.ticks,H (t.left - qty),H t.life,yk t.tag,v17]:=by
   intro j u R
   rw [Nat.zero_add]
   match j,R with
   | 0,R=>cases R; exact (xr 0 (by omega) (by omega) (by omega)).trans (U hM 0 _ rfl)
   | 1,R=>cases R; exact U pY
   | 2,R=>cases R; exact (xr 2 (by omega) (by omega) (by omega)).trans (U hM 2 _ rfl)
   | 3,R=>cases R; exact (xr 3 (by omega) (by omega) (by omega)).trans (U hM 3 _ rfl)
   | 4,R=>cases R; exact (xr 4 (by omega) (by omega) (by omega)).trans (U hM 4 _ rfl)
   | 5,R=>cases R; exact ((U HT9).cell 5 (by omega)).trans (U km)
   | 6,R=>cases R; exact (xr 6 (by omega) (by omega) (by omega)).trans (U hM 6 _ rfl)
   | 7,R=>cases R; exact (xr 7 (by omega) (by omega) (by omega)).trans (U hM 7 _ rfl)
   | 8,R=>cases R; exact ((U HT9).cell 8 (by omega)).trans ((U HCO 8 (by omega)).trans (U Q1))
   | j + 9,R=>simp at R
  refine ⟨vu,v17,rfl,⟨vA,fun j R=>⟨?_,?_⟩,U HO9,bi (U ah) (U HT9) hn17 (zD (U ah) (U vU) (by decide)),by obtain ⟨xu,hc⟩:=U HBX2; exact (U HT9).kind _ _ _ hc,yO ua (U HT9).size⟩,zk (U xv) (cM (U HT9) ua (fun g hg=>((U vU).lt g hg).1))⟩
  ·match j,R with
   | 0,_=>exact Option.isSome_iff_exists.2 ⟨_,vA 0 _ rfl⟩
   | 1,_=>exact Option.isSome_iff_exists.2 ⟨_,vA 1 _ rfl⟩
   | 2,_=>exact Option.isSome_iff_exists.2 ⟨_,vA 2 _ rfl⟩
   | 3,_=>exact Option.isSome_iff_exists.2 ⟨_,vA 3 _ rfl⟩
   | 4,_=>exact Option.isSome_iff_exists.2 ⟨_,vA 4 _ rfl⟩
   | 5,_=>exact Option.isSome_iff_exists.2 ⟨_,vA 5 _ rfl⟩
   | 6,_=>exact Option.isSome_iff_exists.2 ⟨_,vA 6 _ rfl⟩
   | 7,_=>exact Option.isSome_iff_exists.2 ⟨_,vA 7 _ rfl⟩
   | 8,_=>exact Option.isSome_iff_exists.2 ⟨_,vA 8 _ rfl⟩
   | j + 9,h=>omega
  ·have:=(U hT9 j R).2
   rw [Nat.zero_add] at this ⊢
   exact ((U HT9).frozen j).trans ((U HFR j).trans (((U Q3).frozen j).trans this))
 ·rintro x xn V i op ⟨f,rfl,jw,hD⟩ xp hx Z xz D
  have uk:=Y jw
  have HD:=Y hD
  have n17':i < 17→0 < i→¬ x[17]? = some true:=fun xL jz kG=>by
   have h16:=yf xp 17 rfl kG 16 rfl
   have h4:=yf xp 17 rfl kG 4 rfl
   have vx:=yf xp 16 rfl h16 15 rfl
   have h9:=yf xp 15 rfl vx 9 rfl
   have uZ:=yf xp 15 rfl vx 11 rfl
   have qD:=yf xp 15 rfl vx 12 rfl
   have jm:=yf xp 15 rfl vx 14 rfl
   have h8:=yf xp 9 rfl h9 8 rfl
   have h7:=yf xp 8 rfl h8 7 rfl
   have h6:=yf xp 7 rfl h7 6 rfl
   have h5:=yf xp 6 rfl h6 5 rfl
   have vQ:=yf xp 11 rfl uZ 10 rfl
   have jt:=yf xp 14 rfl jm 13 rfl
   have h3:=yf xp 4 rfl h4 3 rfl
   have N:=yf xp 3 rfl h3 2 rfl
   have Q:=yf xp 2 rfl N 1 rfl
   have ul:∀ j,0 < j→j < 17→x[j]? = some true:=fun j jg R=>by
    rcases (by omega:j = 1 ∨ j = 2 ∨ j = 3 ∨ j = 4 ∨ j = 5 ∨ j = 6 ∨ j = 7 ∨ j = 8 ∨ j = 9 ∨ j = 10 ∨ j = 11 ∨ j = 12 ∨ j = 13 ∨ j = 14 ∨ j = 15 ∨ j = 16) with rfl | rfl | rfl | rfl | rfl | rfl | rfl | rfl | rfl | rfl | rfl | rfl | rfl | rfl | rfl | rfl <;> assumption
   rw [ul i jz xL] at xz; cases xz
  have n20':i < 20→¬ x[20]? = some true:=fun xL h20=>by
   have h19:=yf xp 20 rfl h20 19 rfl
   have kG:=yf xp 20 rfl h20 17 rfl
   have ki:=yf xp 19 rfl h19 18 rfl
   have h16:=yf xp 17 rfl kG 16 rfl
   have h4:=yf xp 17 rfl kG 4 rfl
   have vx:=yf xp 16 rfl h16 15 rfl
   have h9:=yf xp 15 rfl vx 9 rfl
   have uZ:=yf xp 15 rfl vx 11 rfl
   have qD:=yf xp 15 rfl vx 12 rfl
   have jm:=yf xp 15 rfl vx 14 rfl
   have h8:=yf xp 9 rfl h9 8 rfl
   have h7:=yf xp 8 rfl h8 7 rfl
   have h6:=yf xp 7 rfl h7 6 rfl
   have h5:=yf xp 6 rfl h6 5 rfl
   have vQ:=yf xp 11 rfl uZ 10 rfl
   have jt:=yf xp 14 rfl jm 13 rfl
   have h3:=yf xp 4 rfl h4 3 rfl
   have N:=yf xp 3 rfl h3 2 rfl
   have Q:=yf xp 2 rfl N 1 rfl
   have h0:=yf xp 18 rfl ki 0 rfl
   have ul:∀ j,j < 20→x[j]? = some true:=fun j R=>by
    rcases (by omega:j = 0 ∨ j = 1 ∨ j = 2 ∨ j = 3 ∨ j = 4 ∨ j = 5 ∨ j = 6 ∨ j = 7 ∨ j = 8 ∨ j = 9 ∨ j = 10 ∨ j = 11 ∨ j = 12 ∨ j = 13 ∨ j = 14 ∨ j = 15 ∨ j = 16 ∨ j = 17 ∨ j = 18 ∨ j = 19) with rfl | rfl | rfl | rfl | rfl | rfl | rfl | rfl | rfl | rfl | rfl | rfl | rfl | rfl | rfl | rfl | rfl | rfl | rfl | rfl <;> assumption
   rw [ul i xL] at xz; cases xz
  have xo:∀ (b o:Nat) (u:Value),W0.cell? (J b o) = some u→¬ x[17]? = some true→V.cell? (J b o) = some u:=fun b o u hu hn17=>((jw hn17).cell (p:=(J b o)) (yL W0 _ hu)).trans hu
  clear jw xp
  match i,Z with
  | 0,Z | 1,Z | 5,Z =>
   obtain rfl:=ya Z
   clear D hD
   rw [if_pos (by rfl)];unfold Oper.wp;go_simp
   exact ⟨upd f _ (I mb 0),by simp [upd],zx (U HD) (by decide) (by decide) (fun _ _ h=>h) (U uk) rfl⟩
  | 2,Z =>
   obtain rfl:=ya Z
   have g:f 1 = I mb 0:=hD 1 (ye D 1 rfl)
   clear D hD
   rw [if_pos (by rfl)];unfold Oper.wp;go_simp
   exact ⟨upd f 2 (I mb 0),by simp [upd,g],zx (U HD) (by decide) (by decide) (fun _ _ h=>h) (U uk) rfl⟩
  | 3,Z =>
   obtain rfl:=ya Z
   have g:f 2 = I mb 0:=hD 2 (ye D 2 rfl)
   clear D hD
   rw [if_pos (by rfl)];unfold Oper.wp;go_simp
   exact ⟨upd f 3 (I mb 8),by simp [upd,g],zx (U HD) (by decide) (by decide) (fun _ _ h=>h) (U uk) rfl⟩
  | 4,Z =>
   obtain rfl:=ya Z
   have g:f 3 = I mb 8:=hD 3 (ye D 3 rfl)
   have n17:=n17' (by omega) (by omega)
   have y8:=xo mb 8 _ (U aw) n17
   clear D hD
   rw [if_pos (by rfl)];unfold Oper.wp;go_simp
   exact ⟨upd f 4 (vt),by simp [upd,g],zx (U HD) (by decide) (by decide) (fun _ _ h=>h) (U uk) rfl⟩
  | 6,Z =>
   obtain rfl:=ya Z
   have g:f 5 = I mb 0:=hD 5 (ye D 5 rfl)
   clear D hD
   rw [if_pos (by rfl)];unfold Oper.wp;go_simp
   exact ⟨upd f 6 (I mb 0),by simp [upd,g],zx (U HD) (by decide) (by decide) (fun _ _ h=>h) (U uk) rfl⟩
  | 7,Z =>
   obtain rfl:=ya Z
   have g:f 6 = I mb 0:=hD 6 (ye D 6 rfl)
   clear D hD
   rw [if_pos (by rfl)];unfold Oper.wp;go_simp
   exact ⟨upd f 7 (I mb 2),by simp [upd,g],zx (U HD) (by decide) (by decide) (fun _ _ h=>h) (U uk) rfl⟩
  | 8,Z =>
   obtain rfl:=ya Z
   have g:f 7 = I mb 2:=hD 7 (ye D 7 rfl)
   clear D hD
   rw [if_pos (by rfl)];unfold Oper.wp;go_simp
   exact ⟨upd f 8 (I mb 2),by simp [upd,g],zx (U HD) (by decide) (by decide) (fun _ _ h=>h) (U uk) rfl⟩
  | 9,Z =>
   obtain rfl:=ya Z
   have g:f 8 = I mb 2:=hD 8 (ye D 8 rfl)
   have n17:=n17' (by omega) (by omega)
   have y2:=xo mb 2 _ (U vC) n17
   clear D hD
   rw [if_pos (by rfl)];unfold Oper.wp;go_simp
   exact ⟨upd f 9 (H t.id),by simp [upd,g],zx (U HD) (by decide) (by decide) (fun _ _ h=>h) (U uk) rfl⟩
  | 10,Z =>
   obtain rfl:=ya Z
   clear D hD
   rw [if_pos (by rfl)];unfold Oper.wp;go_simp
   exact ⟨upd f 10 (yp w 0),by simp [upd],zx (U HD) (by decide) (by decide) (fun _ _ h=>h) (U uk) rfl⟩
  | 11,Z =>
   obtain rfl:=ya Z
   have g:f 10 = yp w 0:=hD 10 (ye D 10 rfl)
   have n17:=n17' (by omega) (by omega)
   have z0:=xo w.heap.size 0 _ (U HF0) n17
   clear D hD
   rw [if_pos (by rfl)];unfold Oper.wp;go_simp
   exact ⟨upd f 11 (H uN),by simp [upd,g],zx (U HD) (by decide) (by decide) (fun _ _ h=>h) (U uk) rfl⟩
  | 12,Z =>
   obtain rfl:=ya Z
   clear D hD
   rw [if_pos (by rfl)];unfold Oper.wp;go_simp
   exact ⟨upd f 12 (H qty),by simp [upd],zx (U HD) (by decide) (by decide) (fun _ _ h=>h) (U uk) rfl⟩
  | 13,Z =>
   obtain rfl:=ya Z
   clear D hD
   rw [if_pos (by rfl)];unfold Oper.wp;go_simp
   exact ⟨upd f 13 (yp w 2),by simp [upd],zx (U HD) (by decide) (by decide) (fun _ _ h=>h) (U uk) rfl⟩
  | 14,Z =>
   obtain rfl:=ya Z
   have g:f 13 = yp w 2:=hD 13 (ye D 13 rfl)
   have n17:=n17' (by omega) (by omega)
   have z2:=xo w.heap.size 2 _ (U HF2) n17
   clear D hD
   rw [if_pos (by rfl)];unfold Oper.wp;go_simp
   exact ⟨upd f 14 (H xy),by simp [upd,g],zx (U HD) (by decide) (by decide) (fun _ _ h=>h) (U uk) rfl⟩
  | 15,Z =>
   obtain rfl:=ya Z
   have g9:f 9 = H t.id:=hD 9 (ye D 9 rfl)
   have vw:f 11 = H uN:=hD 11 (ye D 11 rfl)
   have xZ:f 12 = H qty:=hD 12 (ye D 12 rfl)
   have ku:f 14 = H xy:=hD 14 (ye D 14 rfl)
   clear D hD
   rw [if_pos (by rfl)];unfold Oper.wp;go_simp
   exact ⟨upd f 15 (evV (trE t.id uN qty xy)),by simp [upd,g9,vw,xZ,ku,evV,trE,zCm],zx (U HD) (by decide) (by decide) (fun _ _ h=>h) (U uk) rfl⟩
  | 16,Z =>
   obtain rfl:=ya Z
   have g:f 15 = evV (trE t.id uN qty xy):=hD 15 (ye D 15 rfl)
   have n17:=n17' (by omega) (by omega)
   have xT:=U uk n17
   clear D hD
   unfold evV trE at g
   rw [if_pos (by rfl)];unfold Oper.wp;go_simp
   refine ⟨upd f 16 (.slice (some (yq V 0)) 1 1),by simp [upd,g],zx (U HD) (by decide) (by decide) (dt_alloc n17) (fun _=>xT.alloc xT.size _) ⟨V.heap.size,rfl,fun _=>?_⟩⟩
   exact cellsT V (trE t.id uN qty xy) 46
  | 17,Z =>
   obtain rfl:=ya Z
   have g4:f 4 = vt:=hD 4 (ye D 4 rfl)
   obtain ⟨s,g16,ow⟩:=hD 16 (ye D 16 rfl)
   have n17:¬ x[17]? = some true:=by rw [xz]; simp
   have n20:=n20' (by omega)
   have xT:=U uk n17
   have uX:ERow V B vt ts:=zJ (U vK) xT
   rw [if_pos (by rfl)]
   refine wp_append_own V (.tmp 17) (.tmp 29) 38 rfl B 46 i0 _ 14 120 Tryz.underlying38 uG uF uI uT rfl (by decide) vt ts.length (ts.flatMap Ev.vs) g4 uX (J s 0) 1 1 (trE t.id uN qty xy).vs g16 rfl (ow n17) (one_ev _) (by unfold maxLen; omega) (by omega) (by have:=xT.size; omega) ?_
   intro v' w' xI uc _
   obtain ⟨ga,gc,rfl⟩:=dM xI (by omega)
   refine ⟨upd f 17 (.slice (some (J ga 0)) (ts.length + 1) gc),rfl,rt_one (by decide) (U HD) xz n20 (fun j v R h=>dt_one j v R h) ⟨some (J ga 0),gc,rfl,trivial,fun _=>⟨?_,?_⟩,fun h=>h.elim⟩⟩
   ·show World.ownsRow _ _ _ _ _ (ts ++ [trE t.id uN qty xy]).length _
    rw [yQ,List.flatMap_append]; simpa using xI
   ·exact (aW xT tg).trans uc
  | 18,Z =>
   obtain rfl:=ya Z
   have g:f 0 = I mb 0:=hD 0 (ye D 0 rfl)
   clear D hD
   rw [if_pos (by rfl)];unfold Oper.wp;go_simp
   exact ⟨upd f 18 (I mb 0),by simp [upd,g],zx (U HD) (by decide) (by decide) (fun _ _ h=>h) (U uk) rfl⟩
  | 19,Z =>
   obtain rfl:=ya Z
   have g:f 18 = I mb 0:=hD 18 (ye D 18 rfl)
   clear D hD
   rw [if_pos (by rfl)];unfold Oper.wp;go_simp
   exact ⟨upd f 19 (I mb 8),by simp [upd,g],zx (U HD) (by decide) (by decide) (fun _ _ h=>h) (U uk) rfl⟩
  | 20,Z =>
   obtain rfl:=ya Z
   have g19:f 19 = I mb 8:=hD 19 (ye D 19 rfl)
   have k17:x[17]? = some true:=D ⟨17,.data⟩ (by simp) rfl
   have n20:¬ x[20]? = some true:=by rw [xz]; simp
   obtain ⟨ga,gc,g17,-,hfa,-⟩:=hD 17 k17
   obtain ⟨jW,uc⟩:=hfa n20
   have qS:some mb ≠ vt.ownBlock:=hnt
   have y8:=uc.cell (U aw) qS
   have f8:V.frozen? (J mb 8) = false:=(World.frozen?_of_block (a:=(J mb 8)) (uc.block mb (by omega) qS)).trans (U HF8)
   have jM:=Y (g17 ▸ jW)
   have pp:Hid (∃ xu,V.heap[mb]? = some (.cells xu 157 (0,0))):=by obtain ⟨xu,hc⟩:=U uA; exact ⟨xu,(uc.block mb (by omega) qS).trans hc⟩
   have oV:=Y uc
   clear D hD jW uc hfa
   rw [if_pos (by rfl)];unfold Oper.wp;go_simp
   refine ⟨upd f 20 M,by simp [upd,g19,g17],rt_two (by decide) (U HD) k17 xz (fun j R hxj h=>dt_two j R h (fun hj17=>?_)) trivial⟩
   subst hj17
   obtain ⟨-,-,-,-,-,-⟩:=h
   refine ⟨ga,gc,g17,trivial,fun h=>absurd trivial h,fun _=>?_⟩
   rw [g17]
   refine ⟨yN _ _ _ y8,zv (U jM) (zl (U jM) (U pp) (by decide)) 8 _,?_⟩
   exact ch (bI (U oV) (by omega) qS) (db (o:=7) _ _)
  | i + 21,Z=>simp at Z
end Go.Proofs.YtbakanofkghmiaaGreat
