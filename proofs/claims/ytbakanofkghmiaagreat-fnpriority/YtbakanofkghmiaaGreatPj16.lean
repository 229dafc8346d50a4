/-
  A trade with the front, by the program: proved by walking the method.
-/
import Derived.Test.YtbakanofkghmiaaGreatPj15
set_option linter.unusedVariables false
set_option maxHeartbeats 6400000
set_option maxRecDepth 100000
namespace Go.Proofs.YtbakanofkghmiaaGreat
open Go.RowKit
structure MatS (N B:Nat) (W:World) (next:Int) (vq:Value) (l:List Od) (t:Od) (vt:Value) (ts:List Ev):Prop where
 cells:W.rangeAt N 0 [.int .i64 next,vq,.int .i64 t.id,.int .i64 t.side,.int .i64 t.ticks,.int .i64 t.left,.int .i64 t.life,.string t.tag,vt]
 there:W.there N 0 9
 orow:ORow W B vq l
 erow:ERow W B vt ts
 box:∃ cur,W.heap[N]? = some (.cells cur 157 (0,0))
 le:B ≤ W.heap.size
structure KeptBut (N B:Nat) (w w':World):Prop where
 os:w'.os = w.os
 tape:w'.tape = w.tape
 output:w'.output = w.output
 size:w.heap.size ≤ w'.heap.size
 block:∀ k,k < B→k ≠ N→w'.heap[k]? = w.heap[k]?
theorem zk {N B:Nat} {w w1 w2:World} (z:KeptBut N B w w1) (K:KeptBut N B w1 w2):KeptBut N B w w2 :=
 ⟨K.os.trans z.os,K.tape.trans z.tape,K.output.trans z.output,yK z.size K.size,fun k hk hm=>(K.block k hk hm).trans (z.block k hk hm)⟩
theorem zC {N B C:Nat} {w w1:World} (h:Below C w w1) (hC:B ≤ C):KeptBut N B w w1 :=
 ⟨h.os,h.tape,h.output,h.size,fun k hk _=>h.block k (by omega)⟩
theorem cK {N B o:Nat} {G:Option Nat} {w w1:World} (h:TookAt N o G w w1) (hB:B ≤ w.heap.size) (hG:∀ g,G = some g→B ≤ g):KeptBut N B w w1 :=
 ⟨h.os,h.tape,h.output,h.size,fun k hk hm=>h.block k (by omega) hm (fun e=>by have:=hG k e.symm; omega)⟩
theorem cO {N B:Nat} (w:World) (o:Nat) (u:Value):KeptBut N B w (w.setCell (J N o) u) :=
 ⟨rfl,rfl,rfl,by simp [World.setCell],fun k _ hm=>yP _ _ _ _ hm⟩
theorem kept_drew {N B:Nat} {w w1:World} (h:KeptBut N B w w1):KeptBut N B w w1.drew:=⟨h.os,h.tape,h.output,h.size,h.block⟩
theorem aR {p o B e sz n:Nat} {G:Option Nat} {v:Value} {xs:List Value} {w w':World} (h:w.ownsRow B e sz v n xs) (ht:TookAt p o G w w') (hp:some p ≠ v.ownBlock) (xA:v.ownBlock = none ∨ v.ownBlock ≠ G):w'.ownsRow B e sz v n xs:=by
 refine ⟨h.1,?_⟩
 rcases h.2 with hn | ⟨g,F,xp,rfl,hb,kn,rest⟩
 ·exact .inl hn
 ·refine .inr ⟨g,F,xp,rfl,hb,?_,rest⟩
  rw [ht.block g (yV.1 kn).1 (by simpa [Value.ownBlock] using Ne.symm hp) (by simpa [Value.ownBlock] using xA)]
  exact kn
theorem zo {B e sz n b:Nat} {T:TypeId} {v:Value} {xs:List Value} {w:World} (h:w.ownsRow B e sz v n xs) (hb:∃ xp,w.heap[b]? = some (.cells xp T (0,0))) (xA:T ≠ e):some b ≠ v.ownBlock:=by
 obtain ⟨cb,hb⟩:=hb
 rcases h.2 with ⟨rfl,_⟩ | ⟨g,F,xp,rfl,_,kn,rest⟩
 ·simp [Value.ownBlock]
 ·intro e0
  simp only [Value.ownBlock,Option.some.injEq] at e0
  subst e0
  rw [hb] at kn
  simp only [Option.some.injEq,Obj.cells.injEq] at kn
  exact xA kn.2.1
theorem MatS.nq {N B:Nat} {W:World} {next:Int} {vq:Value} {l:List Od} {t:Od} {vt:Value} {ts:List Ev} (h:MatS N B W next vq l t vt ts):some N ≠ vq.ownBlock:=zo h.orow h.box (by decide)
theorem MatS.nt {N B:Nat} {W:World} {next:Int} {vq:Value} {l:List Od} {t:Od} {vt:Value} {ts:List Ev} (h:MatS N B W next vq l t vt ts):some N ≠ vt.ownBlock:=zo h.erow h.box (by decide)
theorem MatS.lt {N B:Nat} {W:World} {next:Int} {vq:Value} {l:List Od} {t:Od} {vt:Value} {ts:List Ev} (h:MatS N B W next vq l t vt ts):N < W.heap.size:=by
 obtain ⟨xp,h⟩:=h.box
 exact (yV.1 h).1
theorem zD {B B' e e' sz sz' n n':Nat} {v v':Value} {xs xs':List Value} {w:World} (h:w.ownsRow B e sz v n xs) (h':w.ownsRow B' e' sz' v' n' xs') (xA:e ≠ e'):v.ownBlock = none ∨ v.ownBlock ≠ v'.ownBlock:=by
 rcases h.2 with ⟨rfl,_⟩ | ⟨g,F,xp,rfl,hb,kn,rest⟩
 ·exact .inl rfl
 ·refine .inr ?_
  rcases h'.2 with ⟨rfl,_⟩ | ⟨g',po,cur',rfl,oP,hgg',rest'⟩
  ·simp [Value.ownBlock]
  ·intro e0
   simp only [Value.ownBlock,Option.some.injEq] at e0
   subst e0
   rw [kn] at hgg'
   simp only [Option.some.injEq,Obj.cells.injEq] at hgg'
   exact xA hgg'.2.1
theorem trade_any (N B:Nat) (next:Int) (vq:Value) (l:List Od) (t:Od) (vt:Value) (ts:List Ev) (o:Od) (k:Nat) (w:World) (h:MatS N B w next vq l t vt ts)
  (hk:plc l o.id = k) (hc:l[k]? = some o) (hn:l.length ≤ 1000) (hts:ts.length ≤ 1000) (ht0:0 ≤ t.left) (ht1:t.left ≤ 1000000) (ho0:0 ≤ o.left) (vV:o.left ≤ 1000000) (qty:Int) (hq:qty = min t.left o.left) :
  Calls Tryz.prog 151 #[I N 0,.agg (yt o.id o.side o.ticks o.left o.life o.tag).toArray] w fun e w' =>
   ∃ uV vt',e = yk (.tuple #[])∧MatS N B w' next uV (zR l k o qty) { t with left:=t.left - qty } vt' (ts ++ [trE t.id o.id qty o.ticks])∧KeptBut N B w w':=by
 obtain ⟨uy,uK,xr,xH,uJ,vX⟩:=o
 simp only at *
 have HM:=Q h
 have qr:=h.lt
 have oL:=h.le
 have qx:=h.nq
 have hnt:=h.nt
 have xT:Hid (yl w (w.alloc (E (yt uy uK xr xH uJ vX).toArray 49))):=eD _ _
 have jN:=zb h.cells (M xT) qr
 have hf1:=zg w (yt uy uK xr xH uJ vX) 49
 have y5:=jN 5 _ rfl
 have z3:=hf1 3 _ rfl
 simp only [Nat.zero_add] at y5 z3
 have jn:=Q jN
 have pN:=Q hf1
 have HK:=Q hk
 have HC:=Q hc
 have HQ:=Q hq
 clear h jN hf1 hk hc hq
 go_enter Tryz.func151,Tryz.ntmps151
 go_wp2_with fail
 have pN:Hid (World.rangeAt (w.alloc (E (yt uy uK xr xH uJ vX).toArray 49)) w.heap.size 0 (yt uy uK xr xH uJ vX)):=M pN
 have z3:World.cell? (w.alloc (E (yt uy uK xr xH uJ vX).toArray 49)) (yn w 3) = some (H xH):=z3
 generalize (w.alloc (E (yt uy uK xr xH uJ vX).toArray 49)) = W1 at xT jn pN y5 z3 ⊢
 have hmin:∀ W,(Builtin.min_ #[3,3] 3 #[H t.left,H xH]).run Tryz.prog W = .ok (H qty) W:=fun W=>by
  rw [M HQ]
  by_cases qI:t.left ≤ xH
  ·rw [Int.min_eq_left qI]; go_simp; omega
  ·rw [Int.min_eq_right (by omega)]; go_simp
 go_quiet (fail)
 go_wp2_with fail
 have hB0:Hid (yl w (W1.drewN nq)):=cH (M xT) nq
 have hM:Hid ((W1.drewN nq).rangeAt N 0 [H next,vq,H t.id,H t.side,H t.ticks,H t.left,H t.life,yi t.tag,vt]):=M jn
 have hFF:Hid ((W1.drewN nq).rangeAt w.heap.size 0 (yt uy uK xr xH uJ vX)):=M pN
 have hT9:Hid ((W1.drewN nq).there N 0 9):=zf (M HM).there (M hB0) qr
 have HROW:Hid (ERow (W1.drewN nq) B vt ts):=zK (M HM).erow (M hB0)
 have uE:Hid (∃ xp,(W1.drewN nq).heap[N]? = some (.cells xp 157 (0,0))):=by obtain ⟨xp,hc⟩:=(M HM).box; exact ⟨xp,((M hB0).block N qr).trans hc⟩
 have jw:Hid (ORow (W1.drewN nq) B vq l):=zj (M HM).orow (M hB0)
 have xz:w.heap.size < (W1.drewN nq).heap.size:=yH (W1.drewN nq) (yn w (0 + 0)) (M hFF 0 _ rfl)
 clear y5 z3 hmin jn pN xT
 generalize W1.drewN nq = W0 at hB0 hM hFF hT9 HROW jw uE xz ⊢
 have pS:Hid (W0.cell? (J N 8) = some vt):=M hM 8 _ rfl
 have vv:Hid (W0.cell? (J N 2) = some (H t.id)):=M hM 2 _ rfl
 have HF0:Hid (W0.cell? (yn w 0) = some (H uy)):=M hFF 0 _ rfl
 have HF2:Hid (W0.cell? (yn w 2) = some (H xr)):=M hFF 2 _ rfl
 have HF8:Hid (W0.frozen? (J N 8) = false):=by have:=(M hT9 8 (by omega)).2; rwa [Nat.zero_add] at this
 have hmw0:N < W0.heap.size:=by omega
 have hBW0:B ≤ W0.heap.size:=by omega
 obtain ⟨i0,uv,uq,uw,uM⟩:=info_parts infoEv
 refine zi (RT (fun V=>yl W0 V) (fun f=>{ tmps:=#[I N 0,.agg (yt uy uK xr xH uJ vX).toArray,Z,ym w 0,H qty,I N 0,I N 0,I N 2,I N 5,H t.left,ym w 3,H xH,H qty,f 0,f 1,f 2,f 3,f 4,f 5,f 6,f 7,f 8,f 9,f 10,f 11,f 12,f 13,f 14,f 15,f 16,f 17,f 18,f 19,Z,Z,Z,Z,Z,Z,Z,Z,Z,Z,Z,Z,Z,Z,Z,Z,Z],defers:=[] }) 17 20 (DT N w.heap.size B W0 vt ts t.id uy qty xr)) (by kernel_rfl) ?_ ?_ ?_
 ·exact ⟨fun _=>Z,rfl,fun _=>⟨rfl,rfl,rfl,Nat.le_refl _,fun _ _=>rfl⟩,fun j L=>by rw [yF] at L; split at L <;> simp at L⟩
 ·rintro x hR V ⟨f,rfl,-,U⟩ hx xK
  have xm:=aK xK hx (acyc _ (by kernel_rfl))
  have k17:x[17]? = some true:=xm 17 (by simp)
  have k20:x[20]? = some true:=xm 20 (by simp)
  obtain ⟨va,vc,-,-,-,uX⟩:=U 17 k17
  obtain ⟨q1,q2,q3⟩:=uX k20
  have vd:Hid (_∧_∧_):=⟨q1,q2,q3⟩
  clear U xm xK hx k17 k20 uX q1 q2 q3
  dsimp only
  generalize f 17 = v17 at vd ⊢
  generalize f 0 = a0,f 1 = a1,f 2 = a2,f 3 = a3,f 4 = a4,f 5 = a5,f 6 = a6,f 7 = a7,f 8 = a8,f 9 = a9,f 10 = a10,f 11 = a11,f 12 = a12,f 13 = a13,f 14 = a14,f 15 = a15,f 16 = a16,f 18 = a18,f 19 = a19
  obtain ⟨q1,q2,q3⟩:=M vd
  have hvtB:∀ g,vt.ownBlock = some g→B ≤ g∧g < w.heap.size:=(M HM).erow.lt
  have z0:V.cell? (yn w 0) = some (H uy):=(yN (a:=(yn w 0)) (q3.block w.heap.size xz (by omega) (fun e=>by have:=hvtB _ e.symm; omega))).trans (M HF0)
  have y5:V.cell? (J N 5) = some (H t.left):=(q3.cell 5 (by omega)).trans (M hM 5 _ rfl)
  have f5:V.frozen? (J N 5) = false:=(q3.frozen 5).trans (by have:=(M hT9 5 (by omega)).2; rwa [Nat.zero_add] at this)
  have hwr:IntKind.i64.wrap (t.left - qty) = t.left - qty:=by rw [IntKind.wrap_i64]; have:=M HQ; omega
  have hbxV:∃ xp,V.heap[N]? = some (.cells xp 157 (0,0)):=by obtain ⟨xp,hc⟩:=M uE; exact q3.kind _ _ _ hc
  have hn17:some N ≠ v17.ownBlock:=zo q2 hbxV (by decide)
  have HBX2:Hid (∃ xp,(V.setCell (J N 5) (H (t.left - qty))).drew.heap[N]? = some (.cells xp 157 (0,0))):=by obtain ⟨xp,hc⟩:=hbxV; exact zY V N 5 _ hc
  have hms2:N < (V.setCell (J N 5) (H (t.left - qty))).drew.heap.size:=by
   have:=q3.size
   show N < (V.setCell (J N 5) (H (t.left - qty))).heap.size
   simp [World.setCell]; omega
  have q4:ORow V B vq l:=aR (M jw) q3 qx (zD (M jw) (M HROW) (by decide))
  have Z0:(V.setCell (J N 5) (H (t.left - qty))).drew.cell? (yn w 0) = some (H uy):=(yI _ _ _ _ (fun e=>by have:=congrArg Addr.block e; simp at this; omega)).trans z0
  have vO:Hid (ORow (V.setCell (J N 5) (H (t.left - qty))).drew B vq l):=zw q4 qx 5 _
  have oF:Hid (ERow (V.setCell (J N 5) (H (t.left - qty))).drew B v17 (ts ++ [trE t.id uy qty xr])):=zw q2 (zo q2 hbxV (by decide)) 5 _
  have HC5:Hid ((V.setCell (J N 5) (H (t.left - qty))).drew.cell? (J N 5) = some (H (t.left - qty))):=yJ _ _ _ y5
  have HCO:Hid (∀ j,j ≠ 5→(V.setCell (J N 5) (H (t.left - qty))).drew.cell? (J N j) = V.cell? (J N j)):=fun j L=>yI _ _ _ _ (zI (fun e=>L e.symm))
  have HFR:Hid (∀ j,(V.setCell (J N 5) (H (t.left - qty))).drew.frozen? (J N j) = V.frozen? (J N j)):=fun j=>World.frozen?_setCell _ _ _ _
  have xu:Hid (KeptBut N B w (V.setCell (J N 5) (H (t.left - qty))).drew):=kept_drew (zk (zk (zC (M hB0) (by omega)) (cK q3 (by omega) (fun g hg=>(hvtB g hg).1))) (cO V 5 _))
  have xY:B ≤ (V.setCell (J N 5) (H (t.left - qty))).drew.heap.size:=by
   have:=q3.size
   show B ≤ (V.setCell (J N 5) (H (t.left - qty))).heap.size
   simp [World.setCell]; omega
  clear q2 q4 vd hbxV
  have Q1:=Q q1
  have Q3:=Q q3
  clear q1 q3 z0
  go_wp2_with fail
  generalize kF:V.setCell (J N 5) (H (t.left - qty)) = V2 at Z0 vO oF HC5 HCO HFR xu xY HBX2 hms2 ⊢
  clear kF y5 f5 hwr
  refine ek 6 (by kernel_rfl) (by kernel_rfl) ?_
  simp only [yQ,List.take_zero,yR,List.drop_zero]
  repeat still_step
  refine wpStill_nil ?_
  go_wp2_with fail
  refine (takeFrom_any N 0 B next uy qty vq l k ⟨uy,uK,xr,xH,uJ,vX⟩ _ ((M HCO 0 (by omega)).trans (((M Q3).cell 0 (by omega)).trans (M hM 0 _ rfl))) ((M HCO 1 (by omega)).trans (((M Q3).cell 1 (by omega)).trans (M hM 1 _ rfl))) ((M HFR 1).trans (((M Q3).frozen 1).trans (by have:=(M hT9 1 (by omega)).2; rwa [Nat.zero_add] at this))) (M vO) qx hms2 xY hn (M HK) (M HC) (by have:=M HQ; omega) (by have:=M HQ; show qty ≤ xH; omega) vV).mono ?_
  rintro e w9 ⟨uV,rfl,jq,ho9,ht9⟩
  have HC1:=Q jq
  have HO9:=Q ho9
  have HT9:=Q ht9
  clear jq ho9 ht9
  go_wp2_with fail
  go_end0
  have xn:∀ j,j ≠ 1→j ≠ 5→j ≠ 8→w9.cell? (J N j) = W0.cell? (J N j):=fun j z h5 h8=>((M HT9).cell j (by omega)).trans ((M HCO j h5).trans ((M Q3).cell j (by omega)))
  have vn:w9.rangeAt N 0 [H next,uV,H t.id,H t.side,H t.ticks,H (t.left - qty),H t.life,yi t.tag,v17]:=by
   intro j u L
   rw [Nat.zero_add]
   match j,L with
   | 0,L=>cases L; exact (xn 0 (by omega) (by omega) (by omega)).trans (M hM 0 _ rfl)
   | 1,L=>cases L; exact M HC1
   | 2,L=>cases L; exact (xn 2 (by omega) (by omega) (by omega)).trans (M hM 2 _ rfl)
   | 3,L=>cases L; exact (xn 3 (by omega) (by omega) (by omega)).trans (M hM 3 _ rfl)
   | 4,L=>cases L; exact (xn 4 (by omega) (by omega) (by omega)).trans (M hM 4 _ rfl)
   | 5,L=>cases L; exact ((M HT9).cell 5 (by omega)).trans (M HC5)
   | 6,L=>cases L; exact (xn 6 (by omega) (by omega) (by omega)).trans (M hM 6 _ rfl)
   | 7,L=>cases L; exact (xn 7 (by omega) (by omega) (by omega)).trans (M hM 7 _ rfl)
   | 8,L=>cases L; exact ((M HT9).cell 8 (by omega)).trans ((M HCO 8 (by omega)).trans (M Q1))
   | j + 9,L=>simp at L
  refine ⟨uV,v17,rfl,⟨vn,fun j L=>⟨?_,?_⟩,M HO9,aR (M oF) (M HT9) hn17 (zD (M oF) (M vO) (by decide)),by obtain ⟨xp,hc⟩:=M HBX2; exact (M HT9).kind _ _ _ hc,yK xY (M HT9).size⟩,zk (M xu) (cK (M HT9) xY (fun g hg=>((M vO).lt g hg).1))⟩
  ·match j,L with
   | 0,_=>exact Option.isSome_iff_exists.2 ⟨_,vn 0 _ rfl⟩
   | 1,_=>exact Option.isSome_iff_exists.2 ⟨_,vn 1 _ rfl⟩
   | 2,_=>exact Option.isSome_iff_exists.2 ⟨_,vn 2 _ rfl⟩
   | 3,_=>exact Option.isSome_iff_exists.2 ⟨_,vn 3 _ rfl⟩
   | 4,_=>exact Option.isSome_iff_exists.2 ⟨_,vn 4 _ rfl⟩
   | 5,_=>exact Option.isSome_iff_exists.2 ⟨_,vn 5 _ rfl⟩
   | 6,_=>exact Option.isSome_iff_exists.2 ⟨_,vn 6 _ rfl⟩
   | 7,_=>exact Option.isSome_iff_exists.2 ⟨_,vn 7 _ rfl⟩
   | 8,_=>exact Option.isSome_iff_exists.2 ⟨_,vn 8 _ rfl⟩
   | j + 9,h=>omega
  ·have:=(M hT9 j L).2
   rw [Nat.zero_add] at this ⊢
   exact ((M HT9).frozen j).trans ((M HFR j).trans (((M Q3).frozen j).trans this))
 ·rintro x hR V i op ⟨f,rfl,jj,U⟩ xk hx Y xq D
  have xW:=Q jj
  have HD:=Q U
  have n17':i < 17→0 < i→¬ x[17]? = some true:=fun xL vW ki=>by
   have h16:=yd xk 17 rfl ki 16 rfl
   have h4:=yd xk 17 rfl ki 4 rfl
   have vl:=yd xk 16 rfl h16 15 rfl
   have h9:=yd xk 15 rfl vl 9 rfl
   have uL:=yd xk 15 rfl vl 11 rfl
   have qp:=yd xk 15 rfl vl 12 rfl
   have qY:=yd xk 15 rfl vl 14 rfl
   have h8:=yd xk 9 rfl h9 8 rfl
   have h7:=yd xk 8 rfl h8 7 rfl
   have h6:=yd xk 7 rfl h7 6 rfl
   have h5:=yd xk 6 rfl h6 5 rfl
   have vL:=yd xk 11 rfl uL 10 rfl
   have jA:=yd xk 14 rfl qY 13 rfl
   have h3:=yd xk 4 rfl h4 3 rfl
   have K:=yd xk 3 rfl h3 2 rfl
   have z:=yd xk 2 rfl K 1 rfl
   have ub:∀ j,0 < j→j < 17→x[j]? = some true:=fun j jk L=>by
    rcases (by omega:j = 1 ∨ j = 2 ∨ j = 3 ∨ j = 4 ∨ j = 5 ∨ j = 6 ∨ j = 7 ∨ j = 8 ∨ j = 9 ∨ j = 10 ∨ j = 11 ∨ j = 12 ∨ j = 13 ∨ j = 14 ∨ j = 15 ∨ j = 16) with rfl | rfl | rfl | rfl | rfl | rfl | rfl | rfl | rfl | rfl | rfl | rfl | rfl | rfl | rfl | rfl <;> assumption
   rw [ub i vW xL] at xq; cases xq
  have n20':i < 20→¬ x[20]? = some true:=fun xL h20=>by
   have h19:=yd xk 20 rfl h20 19 rfl
   have ki:=yd xk 20 rfl h20 17 rfl
   have jL:=yd xk 19 rfl h19 18 rfl
   have h16:=yd xk 17 rfl ki 16 rfl
   have h4:=yd xk 17 rfl ki 4 rfl
   have vl:=yd xk 16 rfl h16 15 rfl
   have h9:=yd xk 15 rfl vl 9 rfl
   have uL:=yd xk 15 rfl vl 11 rfl
   have qp:=yd xk 15 rfl vl 12 rfl
   have qY:=yd xk 15 rfl vl 14 rfl
   have h8:=yd xk 9 rfl h9 8 rfl
   have h7:=yd xk 8 rfl h8 7 rfl
   have h6:=yd xk 7 rfl h7 6 rfl
   have h5:=yd xk 6 rfl h6 5 rfl
   have vL:=yd xk 11 rfl uL 10 rfl
   have jA:=yd xk 14 rfl qY 13 rfl
   have h3:=yd xk 4 rfl h4 3 rfl
   have K:=yd xk 3 rfl h3 2 rfl
   have z:=yd xk 2 rfl K 1 rfl
   have h0:=yd xk 18 rfl jL 0 rfl
   have ub:∀ j,j < 20→x[j]? = some true:=fun j L=>by
    rcases (by omega:j = 0 ∨ j = 1 ∨ j = 2 ∨ j = 3 ∨ j = 4 ∨ j = 5 ∨ j = 6 ∨ j = 7 ∨ j = 8 ∨ j = 9 ∨ j = 10 ∨ j = 11 ∨ j = 12 ∨ j = 13 ∨ j = 14 ∨ j = 15 ∨ j = 16 ∨ j = 17 ∨ j = 18 ∨ j = 19) with rfl | rfl | rfl | rfl | rfl | rfl | rfl | rfl | rfl | rfl | rfl | rfl | rfl | rfl | rfl | rfl | rfl | rfl | rfl | rfl <;> assumption
   rw [ub i xL] at xq; cases xq
  have xj:∀ (b o:Nat) (u:Value),W0.cell? (J b o) = some u→¬ x[17]? = some true→V.cell? (J b o) = some u:=fun b o u hu hn17=>((jj hn17).cell (p:=(J b o)) (yH W0 _ hu)).trans hu
  clear jj xk
  match i,Y with
  | 0,Y | 1,Y | 5,Y =>
   obtain rfl:=hD Y
   clear D U
   rw [if_pos (by rfl)];unfold Oper.wp;go_simp
   exact ⟨upd f _ (I N 0),by simp [upd],zy (M HD) (by decide) (by decide) (fun _ _ h=>h) (M xW) rfl⟩
  | 2,Y =>
   obtain rfl:=hD Y
   have g:f 1 = I N 0:=U 1 (yc D 1 rfl)
   clear D U
   rw [if_pos (by rfl)];unfold Oper.wp;go_simp
   exact ⟨upd f 2 (I N 0),by simp [upd,g],zy (M HD) (by decide) (by decide) (fun _ _ h=>h) (M xW) rfl⟩
  | 3,Y =>
   obtain rfl:=hD Y
   have g:f 2 = I N 0:=U 2 (yc D 2 rfl)
   clear D U
   rw [if_pos (by rfl)];unfold Oper.wp;go_simp
   exact ⟨upd f 3 (I N 8),by simp [upd,g],zy (M HD) (by decide) (by decide) (fun _ _ h=>h) (M xW) rfl⟩
  | 4,Y =>
   obtain rfl:=hD Y
   have g:f 3 = I N 8:=U 3 (yc D 3 rfl)
   have n17:=n17' (by omega) (by omega)
   have y8:=xj N 8 _ (M pS) n17
   clear D U
   rw [if_pos (by rfl)];unfold Oper.wp;go_simp
   exact ⟨upd f 4 (vt),by simp [upd,g],zy (M HD) (by decide) (by decide) (fun _ _ h=>h) (M xW) rfl⟩
  | 6,Y =>
   obtain rfl:=hD Y
   have g:f 5 = I N 0:=U 5 (yc D 5 rfl)
   clear D U
   rw [if_pos (by rfl)];unfold Oper.wp;go_simp
   exact ⟨upd f 6 (I N 0),by simp [upd,g],zy (M HD) (by decide) (by decide) (fun _ _ h=>h) (M xW) rfl⟩
  | 7,Y =>
   obtain rfl:=hD Y
   have g:f 6 = I N 0:=U 6 (yc D 6 rfl)
   clear D U
   rw [if_pos (by rfl)];unfold Oper.wp;go_simp
   exact ⟨upd f 7 (I N 2),by simp [upd,g],zy (M HD) (by decide) (by decide) (fun _ _ h=>h) (M xW) rfl⟩
  | 8,Y =>
   obtain rfl:=hD Y
   have g:f 7 = I N 2:=U 7 (yc D 7 rfl)
   clear D U
   rw [if_pos (by rfl)];unfold Oper.wp;go_simp
   exact ⟨upd f 8 (I N 2),by simp [upd,g],zy (M HD) (by decide) (by decide) (fun _ _ h=>h) (M xW) rfl⟩
  | 9,Y =>
   obtain rfl:=hD Y
   have g:f 8 = I N 2:=U 8 (yc D 8 rfl)
   have n17:=n17' (by omega) (by omega)
   have y2:=xj N 2 _ (M vv) n17
   clear D U
   rw [if_pos (by rfl)];unfold Oper.wp;go_simp
   exact ⟨upd f 9 (H t.id),by simp [upd,g],zy (M HD) (by decide) (by decide) (fun _ _ h=>h) (M xW) rfl⟩
  | 10,Y =>
   obtain rfl:=hD Y
   clear D U
   rw [if_pos (by rfl)];unfold Oper.wp;go_simp
   exact ⟨upd f 10 (ym w 0),by simp [upd],zy (M HD) (by decide) (by decide) (fun _ _ h=>h) (M xW) rfl⟩
  | 11,Y =>
   obtain rfl:=hD Y
   have g:f 10 = ym w 0:=U 10 (yc D 10 rfl)
   have n17:=n17' (by omega) (by omega)
   have z0:=xj w.heap.size 0 _ (M HF0) n17
   clear D U
   rw [if_pos (by rfl)];unfold Oper.wp;go_simp
   exact ⟨upd f 11 (H uy),by simp [upd,g],zy (M HD) (by decide) (by decide) (fun _ _ h=>h) (M xW) rfl⟩
  | 12,Y =>
   obtain rfl:=hD Y
   clear D U
   rw [if_pos (by rfl)];unfold Oper.wp;go_simp
   exact ⟨upd f 12 (H qty),by simp [upd],zy (M HD) (by decide) (by decide) (fun _ _ h=>h) (M xW) rfl⟩
  | 13,Y =>
   obtain rfl:=hD Y
   clear D U
   rw [if_pos (by rfl)];unfold Oper.wp;go_simp
   exact ⟨upd f 13 (ym w 2),by simp [upd],zy (M HD) (by decide) (by decide) (fun _ _ h=>h) (M xW) rfl⟩
  | 14,Y =>
   obtain rfl:=hD Y
   have g:f 13 = ym w 2:=U 13 (yc D 13 rfl)
   have n17:=n17' (by omega) (by omega)
   have z2:=xj w.heap.size 2 _ (M HF2) n17
   clear D U
   rw [if_pos (by rfl)];unfold Oper.wp;go_simp
   exact ⟨upd f 14 (H xr),by simp [upd,g],zy (M HD) (by decide) (by decide) (fun _ _ h=>h) (M xW) rfl⟩
  | 15,Y =>
   obtain rfl:=hD Y
   have g9:f 9 = H t.id:=U 9 (yc D 9 rfl)
   have vr:f 11 = H uy:=U 11 (yc D 11 rfl)
   have xX:f 12 = H qty:=U 12 (yc D 12 rfl)
   have jU:f 14 = H xr:=U 14 (yc D 14 rfl)
   clear D U
   rw [if_pos (by rfl)];unfold Oper.wp;go_simp
   exact ⟨upd f 15 (evV (trE t.id uy qty xr)),by simp [upd,g9,vr,xX,jU,evV,trE,zCm],zy (M HD) (by decide) (by decide) (fun _ _ h=>h) (M xW) rfl⟩
  | 16,Y =>
   obtain rfl:=hD Y
   have g:f 15 = evV (trE t.id uy qty xr):=U 15 (yc D 15 rfl)
   have n17:=n17' (by omega) (by omega)
   have xZ:=M xW n17
   clear D U
   unfold evV trE at g
   rw [if_pos (by rfl)];unfold Oper.wp;go_simp
   refine ⟨upd f 16 (.slice (some (yn V 0)) 1 1),by simp [upd,g],zy (M HD) (by decide) (by decide) (dt_alloc n17) (fun _=>xZ.alloc xZ.size _) ⟨V.heap.size,rfl,fun _=>?_⟩⟩
   exact cellsT V (trE t.id uy qty xr) 46
  | 17,Y =>
   obtain rfl:=hD Y
   have g4:f 4 = vt:=U 4 (yc D 4 rfl)
   obtain ⟨s,g16,oS⟩:=U 16 (yc D 16 rfl)
   have n17:¬ x[17]? = some true:=by rw [xq]; simp
   have n20:=n20' (by omega)
   have xZ:=M xW n17
   have uD:ERow V B vt ts:=zK (M HROW) xZ
   rw [if_pos (by rfl)]
   refine wp_append_own V (.tmp 17) (.tmp 29) 38 rfl B 46 i0 _ 14 120 Tryz.underlying38 uv uq uw uM rfl (by decide) vt ts.length (ts.flatMap Ev.vs) g4 uD (J s 0) 1 1 (trE t.id uy qty xr).vs g16 rfl (oS n17) (one_ev _) (by unfold maxLen; omega) (by omega) (by have:=xZ.size; omega) ?_
   intro v' w' xN ut _
   obtain ⟨ga,gc,rfl⟩:=dO xN (by omega)
   refine ⟨upd f 17 (.slice (some (J ga 0)) (ts.length + 1) gc),rfl,rt_one (by decide) (M HD) xq n20 (fun j v L h=>dt_one j v L h) ⟨some (J ga 0),gc,rfl,trivial,fun _=>⟨?_,?_⟩,fun h=>h.elim⟩⟩
   ·show World.ownsRow _ _ _ _ _ (ts ++ [trE t.id uy qty xr]).length _
    rw [yM,List.flatMap_append]; simpa using xN
   ·exact (zU xZ tg).trans ut
  | 18,Y =>
   obtain rfl:=hD Y
   have g:f 0 = I N 0:=U 0 (yc D 0 rfl)
   clear D U
   rw [if_pos (by rfl)];unfold Oper.wp;go_simp
   exact ⟨upd f 18 (I N 0),by simp [upd,g],zy (M HD) (by decide) (by decide) (fun _ _ h=>h) (M xW) rfl⟩
  | 19,Y =>
   obtain rfl:=hD Y
   have g:f 18 = I N 0:=U 18 (yc D 18 rfl)
   clear D U
   rw [if_pos (by rfl)];unfold Oper.wp;go_simp
   exact ⟨upd f 19 (I N 8),by simp [upd,g],zy (M HD) (by decide) (by decide) (fun _ _ h=>h) (M xW) rfl⟩
  | 20,Y =>
   obtain rfl:=hD Y
   have g19:f 19 = I N 8:=U 19 (yc D 19 rfl)
   have k17:x[17]? = some true:=D ⟨17,.data⟩ (by simp) rfl
   have n20:¬ x[20]? = some true:=by rw [xq]; simp
   obtain ⟨ga,gc,g17,-,hfa,-⟩:=U 17 k17
   obtain ⟨jC,ut⟩:=hfa n20
   have qK:some N ≠ vt.ownBlock:=hnt
   have y8:=ut.cell (M pS) qK
   have f8:V.frozen? (J N 8) = false:=(World.frozen?_of_block (a:=(J N 8)) (ut.block N (by omega) qK)).trans (M HF8)
   have jt:=Q (g17 ▸ jC)
   have oY:Hid (∃ xp,V.heap[N]? = some (.cells xp 157 (0,0))):=by obtain ⟨xp,hc⟩:=M uE; exact ⟨xp,(ut.block N (by omega) qK).trans hc⟩
   have pQ:=Q ut
   clear D U jC ut hfa
   rw [if_pos (by rfl)];unfold Oper.wp;go_simp
   refine ⟨upd f 20 Z,by simp [upd,g19,g17],rt_two (by decide) (M HD) k17 xq (fun j L hxj h=>dt_two j L h (fun hj17=>?_)) trivial⟩
   subst hj17
   obtain ⟨-,-,-,-,-,-⟩:=h
   refine ⟨ga,gc,g17,trivial,fun h=>absurd trivial h,fun _=>?_⟩
   rw [g17]
   refine ⟨yJ _ _ _ y8,zw (M jt) (zo (M jt) (M oY) (by decide)) 8 _,?_⟩
   exact bU (bD (M pQ) (by omega) qK) (df (o:=7) _ _)
  | i + 21,Y=>simp at Y
end Go.Proofs.YtbakanofkghmiaaGreat
