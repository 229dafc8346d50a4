/-
  A region that draws its order, with two operations that write, the one behind the other: what holds of each value that has come up. No function walked.
-/
import Derived.Test.YtbakanofkghmiaaGreatWj11
set_option linter.unusedVariables false
set_option maxHeartbeats 6400000
set_option maxRecDepth 100000
namespace Go.Proofs.YtbakanofkghmiaaGreat
open Go.RowKit
def RT (B0:World→Prop) (hb:(Nat→Value)→Act) (k h:Nat) (eG:Prop→Prop→World→Nat→Value→Prop) (x:List Bool) (xm:Act) (W:World):Prop :=
 ∃ f,xm = hb f∧(¬ x[k]? = some true→B0 W)∧∀ j,x[j]? = some true→eG (x[k]? = some true) (x[h]? = some true) W j (f j)
section
variable {B0:World→Prop} {W W':World} {k h:Nat} {eG:Prop→Prop→World→Nat→Value→Prop} {x:List Bool} {f:Nat→Value}
theorem zw (hh:∀ j,x[j]? = some true→eG (x[k]? = some true) (x[h]? = some true) W j (f j)) {i:Nat} (hik:i ≠ k) (hih:i ≠ h) (hm:∀ j v,eG (x[k]? = some true) (x[h]? = some true) W j v→eG (x[k]? = some true) (x[h]? = some true) W' j v) (hB:¬ x[k]? = some true→B0 W') {v:Value} (hv:eG (x[k]? = some true) (x[h]? = some true) W' i v) :
  (¬ (x.set i true)[k]? = some true→B0 W')∧∀ j,(x.set i true)[j]? = some true→eG ((x.set i true)[k]? = some true) ((x.set i true)[h]? = some true) W' j (upd f i v j):=by
 rw [yW hik,yW hih]
 refine ⟨hB,fun j K=>?_⟩
 by_cases hji:j = i
 ·subst hji; rw [zp]; exact hv
 ·rw [zq _ _ hji]
  rw [yW (fun e=>hji e.symm)] at K
  exact hm _ _ (hh j K)
theorem rt_one (hkh:k ≠ h) (hh:∀ j,x[j]? = some true→eG (x[k]? = some true) (x[h]? = some true) W j (f j)) (hk:x[k]? = some false) (hn:¬ x[h]? = some true) (hm:∀ j v,j ≠ k→eG False False W j v→eG True False W' j v) {v:Value} (hv:eG True False W' k v) :
  (¬ (x.set k true)[k]? = some true→B0 W')∧∀ j,(x.set k true)[j]? = some true→eG ((x.set k true)[k]? = some true) ((x.set k true)[h]? = some true) W' j (upd f k v j):=by
 have e:((x.set k true)[k]? = some true) = True:=by
  rw [List.getElem?_set_self (yG.1 hk).1]; simp
 have e2:((x.set k true)[h]? = some true) = False:=by
  rw [yW hkh]; exact eq_false hn
 have e3:(x[h]? = some true) = False:=eq_false hn
 have e4:(x[k]? = some true) = False:=by rw [hk]; simp
 rw [e,e2]
 refine ⟨fun h=>absurd trivial h,fun j K=>?_⟩
 by_cases hji:j = k
 ·subst hji; rw [zp]; exact hv
 ·rw [zq _ _ hji]
  rw [yW (fun e=>hji e.symm)] at K
  have:=hh j K
  rw [e3,e4] at this
  exact hm j _ hji this
theorem rt_two (hkh:h ≠ k) (hh:∀ j,x[j]? = some true→eG (x[k]? = some true) (x[h]? = some true) W j (f j)) (hk:x[k]? = some true) (hn:x[h]? = some false) (hm:∀ j,j ≠ h→x[j]? = some true→eG True False W j (f j)→eG True True W' j (f j)) {v:Value} (hv:eG True True W' h v) :
  (¬ (x.set h true)[k]? = some true→B0 W')∧∀ j,(x.set h true)[j]? = some true→eG ((x.set h true)[k]? = some true) ((x.set h true)[h]? = some true) W' j (upd f h v j):=by
 have e:((x.set h true)[h]? = some true) = True:=by
  rw [List.getElem?_set_self (yG.1 hn).1]; simp
 have e2:((x.set h true)[k]? = some true) = True:=by
  rw [yW hkh,hk]; simp
 have e3:(x[h]? = some true) = False:=by rw [hn]; simp
 have e4:(x[k]? = some true) = True:=by rw [hk]; simp
 rw [e,e2]
 refine ⟨fun h=>absurd trivial h,fun j K=>?_⟩
 by_cases hji:j = h
 ·subst hji; rw [zp]; exact hv
 ·rw [zq _ _ hji]
  rw [yW (fun e=>hji e.symm)] at K
  have:=hh j K
  rw [e3,e4] at this
  exact hm j hji K this
end
def trE (uA pK qty pL:Int):Ev:=⟨3,zCm,uA,pK,qty,pL,0⟩
abbrev ERow (W:World) (B:Nat) (v:Value) (l:List Ev):Prop:=W.ownsRow B 46 14 v l.length (l.flatMap Ev.vs)
theorem infoEv:(Tryz.prog.info? 46).map (fun i=>(i.zero,i.size,i.bytes)) = some (some (.agg (yu 0 0 0 0 0 0 0 0 ⟨#[]⟩ 0 0 0 0 0).toArray),14,120):=by kernel_rfl
theorem one_ev (e:Ev):∀ u ∈ e.vs,u.oneCell' = true:=by
 intro u hu
 simp [Ev.vs] at hu
 rcases hu with rfl | rfl | rfl | rfl | rfl | rfl | rfl | rfl | rfl | rfl | rfl | rfl | rfl | rfl <;> rfl
theorem zI {W W':World} {B:Nat} {v:Value} {l:List Ev} (h:ERow W B v l) (F:yn W W'):ERow W' B v l :=
 World.ownsRow.kept h (row:=none) (ba F qt) (by cases v.ownBlock <;> simp)
theorem cU {W:World} {B:Nat} {v:Value} {l:List Ev} (h:ERow W B v l) {b:Nat} (F:b < B) (o:Nat) (u:Value):ERow (W.setCell (J b o) u) B v l :=
 ownsRow_setCell_below h (a:=(J b o)) F u
theorem dQ {W:World} {B e sz n:Nat} {v:Value} {xs:List Value} (h:W.ownsRow B e sz v n xs) (hn:0 < n):∃ g c,v = .slice (some (J g 0)) n c:=by
 rcases h.2 with ⟨_,h0⟩ | ⟨g,A,_,G,_⟩
 ·omega
 ·exact ⟨g,A,G⟩
theorem cellsT (W:World) (e:Ev) (t:TypeId):∀ j u,e.vs[j]? = some u→(W.alloc (Obj.cells e.vs.toArray t)).cell? (((yq W 0):Addr).add j) = some u:=fun j u h=>cE W e.vs t j u h
def DT (mb fb B:Nat) (W0:World) (vt:Value) (ts:List Ev) (uA pK qty pL:Int) (p q:Prop) (V:World):Nat→Value→Prop
 | 0,v=>v = I mb 0
 | 1,v=>v = I mb 0
 | 2,v=>v = I mb 0
 | 3,v=>v = I mb 8
 | 4,v=>v = vt
 | 5,v=>v = I mb 0
 | 6,v=>v = I mb 0
 | 7,v=>v = I mb 2
 | 8,v=>v = I mb 2
 | 9,v=>v = H uA
 | 10,v=>v = I fb 0
 | 11,v=>v = H pK
 | 12,v=>v = H qty
 | 13,v=>v = I fb 2
 | 14,v=>v = H pL
 | 15,v=>v = evV (trE uA pK qty pL)
 | 16,v=>∃ s,v = .slice (some (J s 0)) 1 1∧(¬ p→∀ j u,(trE uA pK qty pL).vs[j]? = some u→V.cell? (((J s 0):Addr).add j) = some u)
 | 17,v=>∃ a c,v = .slice a (ts.length + 1) c∧p∧(¬ q→ERow V B v (ts ++ [trE uA pK qty pL])∧W0.grownBy V vt.ownBlock)∧(q→V.cell? (J mb 8) = some v∧ERow V B v (ts ++ [trE uA pK qty pL])∧TookAt mb 7 vt.ownBlock W0 V)
 | 18,v=>v = I mb 0
 | 19,v=>v = I mb 8
 | _,_=>True
section
variable {mb fb B:Nat} {W0 V V':World} {vt:Value} {ts:List Ev} {uA pK qty pL:Int} {p q:Prop}
theorem dt_alloc {o:Obj} (hp:¬ p):∀ j v,DT mb fb B W0 vt ts uA pK qty pL p q V j v→DT mb fb B W0 vt ts uA pK qty pL p q (V.alloc o) j v:=by
 intro j v h
 match j with
 | 0 | 1 | 2 | 3 | 4 | 5 | 6 | 7 | 8 | 9 | 10 | 11 | 12 | 13 | 14 | 15 | 18 | 19=>exact h
 | 16 =>
  obtain ⟨s,G,E⟩:=h
  exact ⟨s,G,fun hp j u hu=>(yV _ _ _ (yK V _ (E hp j u hu))).trans (E hp j u hu)⟩
 | 17=>obtain ⟨_,_,_,E,_⟩:=h; exact absurd E hp
 | j + 20=>trivial
theorem dt_one:∀ j v,j ≠ 17→DT mb fb B W0 vt ts uA pK qty pL False False V j v→DT mb fb B W0 vt ts uA pK qty pL True False V' j v:=by
 intro j v K h
 match j with
 | 0 | 1 | 2 | 3 | 4 | 5 | 6 | 7 | 8 | 9 | 10 | 11 | 12 | 13 | 14 | 15 | 18 | 19=>exact h
 | 16 =>
  obtain ⟨s,G,E⟩:=h
  exact ⟨s,G,fun hp=>absurd trivial hp⟩
 | 17=>exact absurd rfl K
 | j + 20=>trivial
theorem dt_two {v:Value}:∀ j,j ≠ 20→DT mb fb B W0 vt ts uA pK qty pL True False V j v→(j = 17→DT mb fb B W0 vt ts uA pK qty pL True True V' 17 v)→DT mb fb B W0 vt ts uA pK qty pL True True V' j v:=by
 intro j K h kD
 match j with
 | 0 | 1 | 2 | 3 | 4 | 5 | 6 | 7 | 8 | 9 | 10 | 11 | 12 | 13 | 14 | 15 | 18 | 19=>exact h
 | 16 =>
  obtain ⟨s,G,E⟩:=h
  exact ⟨s,G,fun hp=>absurd trivial hp⟩
 | 17=>exact kD rfl
 | j + 20=>trivial
end
structure MatS (mb B:Nat) (W:World) (next:Int) (vq:Value) (l:List Od) (t:Od) (vt:Value) (ts:List Ev):Prop where
 cells:W.rangeAt mb 0 [.int .i64 next,vq,.int .i64 t.id,.int .i64 t.side,.int .i64 t.ticks,.int .i64 t.left,.int .i64 t.life,.string t.tag,vt]
 there:W.there mb 0 9
 orow:ORow W B vq l
 erow:ERow W B vt ts
 box:∃ cur,W.heap[mb]? = some (.cells cur 157 (0,0))
 le:B ≤ W.heap.size
structure KeptBut (mb B:Nat) (w w':World):Prop where
 os:w'.os = w.os
 tape:w'.tape = w.tape
 output:w'.output = w.output
 size:w.heap.size ≤ w'.heap.size
 block:∀ k,k < B→k ≠ mb→w'.heap[k]? = w.heap[k]?
theorem zk {mb B:Nat} {w w1 w2:World} (G:KeptBut mb B w w1) (E:KeptBut mb B w1 w2):KeptBut mb B w w2 :=
 ⟨E.os.trans G.os,E.tape.trans G.tape,E.output.trans G.output,yN G.size E.size,fun k hk hm=>(E.block k hk hm).trans (G.block k hk hm)⟩
theorem zC {mb B C:Nat} {w w1:World} (h:Below C w w1) (hC:B ≤ C):KeptBut mb B w w1 :=
 ⟨h.os,h.tape,h.output,h.size,fun k hk _=>h.block k (by omega)⟩
theorem cT {mb B o:Nat} {h1:Option Nat} {w w1:World} (h:TookAt mb o h1 w w1) (hB:B ≤ w.heap.size) (hG:∀ g,h1 = some g→B ≤ g):KeptBut mb B w w1 :=
 ⟨h.os,h.tape,h.output,h.size,fun k hk hm=>h.block k (by omega) hm (fun e=>by have:=hG k e.symm; omega)⟩
theorem cV {mb B:Nat} (w:World) (o:Nat) (u:Value):KeptBut mb B w (w.setCell (J mb o) u) :=
 ⟨rfl,rfl,rfl,by simp [World.setCell],fun k _ hm=>yS _ _ _ _ hm⟩
theorem kept_drew {mb B:Nat} {w w1:World} (h:KeptBut mb B w w1):KeptBut mb B w w1.drew:=⟨h.os,h.tape,h.output,h.size,h.block⟩
theorem br {p o B e sz n:Nat} {h1:Option Nat} {v:Value} {xs:List Value} {w w':World} (h:w.ownsRow B e sz v n xs) (ht:TookAt p o h1 w w') (hp:some p ≠ v.ownBlock) (xB:v.ownBlock = none ∨ v.ownBlock ≠ h1):w'.ownsRow B e sz v n xs:=by
 refine ⟨h.1,?_⟩
 rcases h.2 with hn | ⟨g,A,xr,rfl,F,kG,rest⟩
 ·exact .inl hn
 ·refine .inr ⟨g,A,xr,rfl,F,?_,rest⟩
  rw [ht.block g (yY.1 kG).1 (by simpa [Value.ownBlock] using Ne.symm hp) (by simpa [Value.ownBlock] using xB)]
  exact kG
theorem zl {B e sz n b:Nat} {T:TypeId} {v:Value} {xs:List Value} {w:World} (h:w.ownsRow B e sz v n xs) (F:∃ xr,w.heap[b]? = some (.cells xr T (0,0))) (xB:T ≠ e):some b ≠ v.ownBlock:=by
 obtain ⟨cb,F⟩:=F
 rcases h.2 with ⟨rfl,_⟩ | ⟨g,A,xr,rfl,_,kG,rest⟩
 ·simp [Value.ownBlock]
 ·intro e0
  simp only [Value.ownBlock,Option.some.injEq] at e0
  subst e0
  rw [F] at kG
  simp only [Option.some.injEq,Obj.cells.injEq] at kG
  exact xB kG.2.1
theorem MatS.nq {mb B:Nat} {W:World} {next:Int} {vq:Value} {l:List Od} {t:Od} {vt:Value} {ts:List Ev} (h:MatS mb B W next vq l t vt ts):some mb ≠ vq.ownBlock:=zl h.orow h.box (by decide)
theorem MatS.nt {mb B:Nat} {W:World} {next:Int} {vq:Value} {l:List Od} {t:Od} {vt:Value} {ts:List Ev} (h:MatS mb B W next vq l t vt ts):some mb ≠ vt.ownBlock:=zl h.erow h.box (by decide)
theorem MatS.lt {mb B:Nat} {W:World} {next:Int} {vq:Value} {l:List Od} {t:Od} {vt:Value} {ts:List Ev} (h:MatS mb B W next vq l t vt ts):mb < W.heap.size:=by
 obtain ⟨xr,h⟩:=h.box
 exact (yY.1 h).1
theorem zD {B B' e e' sz sz' n n':Nat} {v v':Value} {xs xs':List Value} {w:World} (h:w.ownsRow B e sz v n xs) (h':w.ownsRow B' e' sz' v' n' xs') (xB:e ≠ e'):v.ownBlock = none ∨ v.ownBlock ≠ v'.ownBlock:=by
 rcases h.2 with ⟨rfl,_⟩ | ⟨g,A,xr,rfl,F,kG,rest⟩
 ·exact .inl rfl
 ·refine .inr ?_
  rcases h'.2 with ⟨rfl,_⟩ | ⟨g',pI,cur',rfl,jK,hgg',rest'⟩
  ·simp [Value.ownBlock]
  ·intro e0
   simp only [Value.ownBlock,Option.some.injEq] at e0
   subst e0
   rw [kG] at hgg'
   simp only [Option.some.injEq,Obj.cells.injEq] at hgg'
   exact xB hgg'.2.1
theorem trade_any (mb B:Nat) (next:Int) (vq:Value) (l:List Od) (t:Od) (vt:Value) (ts:List Ev) (o:Od) (k:Nat) (w:World) (h:MatS mb B w next vq l t vt ts)
  (hk:plc l o.id = k) (hc:l[k]? = some o) (hn:l.length ≤ 1000) (hts:ts.length ≤ 1000) (ht0:0 ≤ t.left) (ht1:t.left ≤ 1000000) (pv:0 ≤ o.left) (vu:o.left ≤ 1000000) (qty:Int) (hq:qty = min t.left o.left) :
  Calls Tryz.prog 151 #[I mb 0,.agg (yv o.id o.side o.ticks o.left o.life o.tag).toArray] w fun e w' =>
   ∃ vw vt',e = ym (.tuple #[])∧MatS mb B w' next vw (aN l k o qty) { t with left:=t.left - qty } vt' (ts ++ [trE t.id o.id qty o.ticks])∧KeptBut mb B w w':=by
 obtain ⟨uL,uT,xw,xG,uS,vY⟩:=o
 simp only at *
 have HM:=Y h
 have qG:=h.lt
 have pM:=h.le
 have qL:=h.nq
 have hnt:=h.nt
 have xU:Hid (yn w (w.alloc (eF (yv uL uT xw xG uS vY).toArray 49))):=eD _ _
 have jD:=zb h.cells (U xU) qG
 have hf1:=zi w (yv uL uT xw xG uS vY) 49
 have y5:=jD 5 _ rfl
 have z3:=hf1 3 _ rfl
 simp only [Nat.zero_add] at y5 z3
 have jG:=Y jD
 have qP:=Y hf1
 have HK:=Y hk
 have HC:=Y hc
 have HQ:=Y hq
 clear h jD hf1 hk hc hq
 go_enter Tryz.func151,Tryz.ntmps151
 go_wp2_with fail
 have qP:Hid (World.rangeAt (w.alloc (eF (yv uL uT xw xG uS vY).toArray 49)) w.heap.size 0 (yv uL uT xw xG uS vY)):=U qP
 have z3:World.cell? (w.alloc (eF (yv uL uT xw xG uS vY).toArray 49)) (yq w 3) = some (H xG):=z3
 generalize (w.alloc (eF (yv uL uT xw xG uS vY).toArray 49)) = W1 at xU jG qP y5 z3 ⊢
 have hmin:∀ W,(Builtin.min_ #[3,3] 3 #[H t.left,H xG]).run Tryz.prog W = .ok (H qty) W:=fun W=>by
  rw [U HQ]
  by_cases kl:t.left ≤ xG
  ·rw [Int.min_eq_left kl]; go_simp; omega
  ·rw [Int.min_eq_right (by omega)]; go_simp
 go_quiet (fail)
 go_wp2_with fail
 have hB0:Hid (yn w (W1.drewN nq)):=cQ (U xU) nq
 have hM:Hid ((W1.drewN nq).rangeAt mb 0 [H next,vq,H t.id,H t.side,H t.ticks,H t.left,H t.life,yk t.tag,vt]):=U jG
 have hFF:Hid ((W1.drewN nq).rangeAt w.heap.size 0 (yv uL uT xw xG uS vY)):=U qP
 have hT9:Hid ((W1.drewN nq).there mb 0 9):=zg (U HM).there (U hB0) qG
 have vK:Hid (ERow (W1.drewN nq) B vt ts):=zI (U HM).erow (U hB0)
 have ux:Hid (∃ xr,(W1.drewN nq).heap[mb]? = some (.cells xr 157 (0,0))):=by obtain ⟨xr,hc⟩:=(U HM).box; exact ⟨xr,((U hB0).block mb qG).trans hc⟩
 have jS:Hid (ORow (W1.drewN nq) B vq l):=zm (U HM).orow (U hB0)
 have xA:w.heap.size < (W1.drewN nq).heap.size:=yK (W1.drewN nq) (yq w (0 + 0)) (U hFF 0 _ rfl)
 clear y5 z3 hmin jG qP xU
 generalize W1.drewN nq = W0 at hB0 hM hFF hT9 vK jS ux xA ⊢
 have aA:Hid (W0.cell? (J mb 8) = some vt):=U hM 8 _ rfl
 have vC:Hid (W0.cell? (J mb 2) = some (H t.id)):=U hM 2 _ rfl
 have HF0:Hid (W0.cell? (yq w 0) = some (H uL)):=U hFF 0 _ rfl
 have HF2:Hid (W0.cell? (yq w 2) = some (H xw)):=U hFF 2 _ rfl
 have HF8:Hid (W0.frozen? (J mb 8) = false):=by have:=(U hT9 8 (by omega)).2; rwa [Nat.zero_add] at this
 have hmw0:mb < W0.heap.size:=by omega
 have hBW0:B ≤ W0.heap.size:=by omega
 obtain ⟨i0,uH,uF,uJ,uQ⟩:=info_parts infoEv
 refine zj (RT (fun V=>yn W0 V) (fun f=>{ tmps:=#[I mb 0,.agg (yv uL uT xw xG uS vY).toArray,M,yp w 0,H qty,I mb 0,I mb 0,I mb 2,I mb 5,H t.left,yp w 3,H xG,H qty,f 0,f 1,f 2,f 3,f 4,f 5,f 6,f 7,f 8,f 9,f 10,f 11,f 12,f 13,f 14,f 15,f 16,f 17,f 18,f 19,M,M,M,M,M,M,M,M,M,M,M,M,M,M,M,M,M],defers:=[] }) 17 20 (DT mb w.heap.size B W0 vt ts t.id uL qty xw)) (by kernel_rfl) ?_ ?_ ?_
 ·exact ⟨fun _=>M,rfl,fun _=>⟨rfl,rfl,rfl,Nat.le_refl _,fun _ _=>rfl⟩,fun j K=>by rw [yI] at K; split at K <;> simp at K⟩
 ·rintro x xm V ⟨f,rfl,-,hD⟩ hx xP
  have xp:=zV xP hx (acyc _ (by kernel_rfl))
  have k17:x[17]? = some true:=xp 17 (by simp)
  have k20:x[20]? = some true:=xp 20 (by simp)
  obtain ⟨va,vc,-,-,-,vk⟩:=hD 17 k17
  obtain ⟨q1,q2,q3⟩:=vk k20
  have vv:Hid (_∧_∧_):=⟨q1,q2,q3⟩
  clear hD xp xP hx k17 k20 vk q1 q2 q3
  dsimp only
  generalize f 17 = v17 at vv ⊢
  generalize f 0 = a0,f 1 = a1,f 2 = a2,f 3 = a3,f 4 = a4,f 5 = a5,f 6 = a6,f 7 = a7,f 8 = a8,f 9 = a9,f 10 = a10,f 11 = a11,f 12 = a12,f 13 = a13,f 14 = a14,f 15 = a15,f 16 = a16,f 18 = a18,f 19 = a19
  obtain ⟨q1,q2,q3⟩:=U vv
  have hvtB:∀ g,vt.ownBlock = some g→B ≤ g∧g < w.heap.size:=(U HM).erow.lt
  have z0:V.cell? (yq w 0) = some (H uL):=(yQ (a:=(yq w 0)) (q3.block w.heap.size xA (by omega) (fun e=>by have:=hvtB _ e.symm; omega))).trans (U HF0)
  have y5:V.cell? (J mb 5) = some (H t.left):=(q3.cell 5 (by omega)).trans (U hM 5 _ rfl)
  have f5:V.frozen? (J mb 5) = false:=(q3.frozen 5).trans (by have:=(U hT9 5 (by omega)).2; rwa [Nat.zero_add] at this)
  have hwr:IntKind.i64.wrap (t.left - qty) = t.left - qty:=by rw [IntKind.wrap_i64]; have:=U HQ; omega
  have hbxV:∃ xr,V.heap[mb]? = some (.cells xr 157 (0,0)):=by obtain ⟨xr,hc⟩:=U ux; exact q3.kind _ _ _ hc
  have hn17:some mb ≠ v17.ownBlock:=zl q2 hbxV (by decide)
  have HBX2:Hid (∃ xr,(V.setCell (J mb 5) (H (t.left - qty))).drew.heap[mb]? = some (.cells xr 157 (0,0))):=by obtain ⟨xr,hc⟩:=hbxV; exact zO V mb 5 _ hc
  have hms2:mb < (V.setCell (J mb 5) (H (t.left - qty))).drew.heap.size:=by
   have:=q3.size
   show mb < (V.setCell (J mb 5) (H (t.left - qty))).heap.size
   simp [World.setCell]; omega
  have q4:ORow V B vq l:=br (U jS) q3 qL (zD (U jS) (U vK) (by decide))
  have Z0:(V.setCell (J mb 5) (H (t.left - qty))).drew.cell? (yq w 0) = some (H uL):=(yL _ _ _ _ (fun e=>by have:=congrArg Addr.block e; simp at this; omega)).trans z0
  have vT:Hid (ORow (V.setCell (J mb 5) (H (t.left - qty))).drew B vq l):=zu q4 qL 5 _
  have aw:Hid (ERow (V.setCell (J mb 5) (H (t.left - qty))).drew B v17 (ts ++ [trE t.id uL qty xw])):=zu q2 (zl q2 hbxV (by decide)) 5 _
  have kn:Hid ((V.setCell (J mb 5) (H (t.left - qty))).drew.cell? (J mb 5) = some (H (t.left - qty))):=yM _ _ _ y5
  have HCO:Hid (∀ j,j ≠ 5→(V.setCell (J mb 5) (H (t.left - qty))).drew.cell? (J mb j) = V.cell? (J mb j)):=fun j K=>yL _ _ _ _ (zP (fun e=>K e.symm))
  have HFR:Hid (∀ j,(V.setCell (J mb 5) (H (t.left - qty))).drew.frozen? (J mb j) = V.frozen? (J mb j)):=fun j=>World.frozen?_setCell _ _ _ _
  have xu:Hid (KeptBut mb B w (V.setCell (J mb 5) (H (t.left - qty))).drew):=kept_drew (zk (zk (zC (U hB0) (by omega)) (cT q3 (by omega) (fun g hg=>(hvtB g hg).1))) (cV V 5 _))
  have ua:B ≤ (V.setCell (J mb 5) (H (t.left - qty))).drew.heap.size:=by
   have:=q3.size
   show B ≤ (V.setCell (J mb 5) (H (t.left - qty))).heap.size
   simp [World.setCell]; omega
  clear q2 q4 vv hbxV
  have Q1:=Y q1
  have Q3:=Y q3
  clear q1 q3 z0
  go_wp2_with fail
  generalize kF:V.setCell (J mb 5) (H (t.left - qty)) = V2 at Z0 vT aw kn HCO HFR xu ua HBX2 hms2 ⊢
  clear kF y5 f5 hwr
  refine ej 6 (by kernel_rfl) (by kernel_rfl) ?_
  simp only [yT,List.take_zero,yU,List.drop_zero]
  repeat still_step
  refine wpStill_nil ?_
  go_wp2_with fail
  refine (takeFrom_any mb 0 B next uL qty vq l k ⟨uL,uT,xw,xG,uS,vY⟩ _ ((U HCO 0 (by omega)).trans (((U Q3).cell 0 (by omega)).trans (U hM 0 _ rfl))) ((U HCO 1 (by omega)).trans (((U Q3).cell 1 (by omega)).trans (U hM 1 _ rfl))) ((U HFR 1).trans (((U Q3).frozen 1).trans (by have:=(U hT9 1 (by omega)).2; rwa [Nat.zero_add] at this))) (U vT) qL hms2 ua hn (U HK) (U HC) (by have:=U HQ; omega) (by have:=U HQ; show qty ≤ xG; omega) vu).mono ?_
  rintro e w9 ⟨vw,rfl,kU,ho9,ht9⟩
  have ak:=Y kU
  have HO9:=Y ho9
  have HT9:=Y ht9
  clear kU ho9 ht9
  go_wp2_with fail
  go_end0
  have xq:∀ j,j ≠ 1→j ≠ 5→j ≠ 8→w9.cell? (J mb j) = W0.cell? (J mb j):=fun j G h5 h8=>((U HT9).cell j (by omega)).trans ((U HCO j h5).trans ((U Q3).cell j (by omega)))
  have vA:w9.rangeAt mb 0 [H next,vw,H t.id,H t.side,H t.ticks,H (t.left - qty),H t.life,yk t.tag,v17]:=by
   intro j u K
   rw [Nat.zero_add]
   match j,K with
   | 0,K=>cases K; exact (xq 0 (by omega) (by omega) (by omega)).trans (U hM 0 _ rfl)
   | 1,K=>cases K; exact U ak
   | 2,K=>cases K; exact (xq 2 (by omega) (by omega) (by omega)).trans (U hM 2 _ rfl)
   | 3,K=>cases K; exact (xq 3 (by omega) (by omega) (by omega)).trans (U hM 3 _ rfl)
   | 4,K=>cases K; exact (xq 4 (by omega) (by omega) (by omega)).trans (U hM 4 _ rfl)
   | 5,K=>cases K; exact ((U HT9).cell 5 (by omega)).trans (U kn)
   | 6,K=>cases K; exact (xq 6 (by omega) (by omega) (by omega)).trans (U hM 6 _ rfl)
   | 7,K=>cases K; exact (xq 7 (by omega) (by omega) (by omega)).trans (U hM 7 _ rfl)
   | 8,K=>cases K; exact ((U HT9).cell 8 (by omega)).trans ((U HCO 8 (by omega)).trans (U Q1))
   | j + 9,K=>simp at K
  refine ⟨vw,v17,rfl,⟨vA,fun j K=>⟨?_,?_⟩,U HO9,br (U aw) (U HT9) hn17 (zD (U aw) (U vT) (by decide)),by obtain ⟨xr,hc⟩:=U HBX2; exact (U HT9).kind _ _ _ hc,yN ua (U HT9).size⟩,zk (U xu) (cT (U HT9) ua (fun g hg=>((U vT).lt g hg).1))⟩
  ·match j,K with
   | 0,_=>exact Option.isSome_iff_exists.2 ⟨_,vA 0 _ rfl⟩
   | 1,_=>exact Option.isSome_iff_exists.2 ⟨_,vA 1 _ rfl⟩
   | 2,_=>exact Option.isSome_iff_exists.2 ⟨_,vA 2 _ rfl⟩
   | 3,_=>exact Option.isSome_iff_exists.2 ⟨_,vA 3 _ rfl⟩
   | 4,_=>exact Option.isSome_iff_exists.2 ⟨_,vA 4 _ rfl⟩
   | 5,_=>exact Option.isSome_iff_exists.2 ⟨_,vA 5 _ rfl⟩
   | 6,_=>exact Option.isSome_iff_exists.2 ⟨_,vA 6 _ rfl⟩
   | 7,_=>exact Option.isSome_iff_exists.2 ⟨_,vA 7 _ rfl⟩
   | 8,_=>exact Option.isSome_iff_exists.2 ⟨_,vA 8 _ rfl⟩
   | j + 9,h=>omega
  ·have:=(U hT9 j K).2
   rw [Nat.zero_add] at this ⊢
   exact ((U HT9).frozen j).trans ((U HFR j).trans (((U Q3).frozen j).trans this))
 ·rintro x xm V i op ⟨f,rfl,jB,hD⟩ xo hx Z xy Q
  have ui:=Y jB
  have HD:=Y hD
  have n17':i < 17→0 < i→¬ x[17]? = some true:=fun xJ qu kD=>by
   have h16:=yf xo 17 rfl kD 16 rfl
   have h4:=yf xo 17 rfl kD 4 rfl
   have vx:=yf xo 16 rfl h16 15 rfl
   have h9:=yf xo 15 rfl vx 9 rfl
   have uX:=yf xo 15 rfl vx 11 rfl
   have qF:=yf xo 15 rfl vx 12 rfl
   have jo:=yf xo 15 rfl vx 14 rfl
   have h8:=yf xo 9 rfl h9 8 rfl
   have h7:=yf xo 8 rfl h8 7 rfl
   have h6:=yf xo 7 rfl h7 6 rfl
   have h5:=yf xo 6 rfl h6 5 rfl
   have vQ:=yf xo 11 rfl uX 10 rfl
   have jy:=yf xo 14 rfl jo 13 rfl
   have h3:=yf xo 4 rfl h4 3 rfl
   have E:=yf xo 3 rfl h3 2 rfl
   have G:=yf xo 2 rfl E 1 rfl
   have uj:∀ j,0 < j→j < 17→x[j]? = some true:=fun j jj K=>by
    rcases (by omega:j = 1 ∨ j = 2 ∨ j = 3 ∨ j = 4 ∨ j = 5 ∨ j = 6 ∨ j = 7 ∨ j = 8 ∨ j = 9 ∨ j = 10 ∨ j = 11 ∨ j = 12 ∨ j = 13 ∨ j = 14 ∨ j = 15 ∨ j = 16) with rfl | rfl | rfl | rfl | rfl | rfl | rfl | rfl | rfl | rfl | rfl | rfl | rfl | rfl | rfl | rfl <;> assumption
   rw [uj i qu xJ] at xy; cases xy
  have n20':i < 20→¬ x[20]? = some true:=fun xJ h20=>by
   have h19:=yf xo 20 rfl h20 19 rfl
   have kD:=yf xo 20 rfl h20 17 rfl
   have kh:=yf xo 19 rfl h19 18 rfl
   have h16:=yf xo 17 rfl kD 16 rfl
   have h4:=yf xo 17 rfl kD 4 rfl
   have vx:=yf xo 16 rfl h16 15 rfl
   have h9:=yf xo 15 rfl vx 9 rfl
   have uX:=yf xo 15 rfl vx 11 rfl
   have qF:=yf xo 15 rfl vx 12 rfl
   have jo:=yf xo 15 rfl vx 14 rfl
   have h8:=yf xo 9 rfl h9 8 rfl
   have h7:=yf xo 8 rfl h8 7 rfl
   have h6:=yf xo 7 rfl h7 6 rfl
   have h5:=yf xo 6 rfl h6 5 rfl
   have vQ:=yf xo 11 rfl uX 10 rfl
   have jy:=yf xo 14 rfl jo 13 rfl
   have h3:=yf xo 4 rfl h4 3 rfl
   have E:=yf xo 3 rfl h3 2 rfl
   have G:=yf xo 2 rfl E 1 rfl
   have h0:=yf xo 18 rfl kh 0 rfl
   have uj:∀ j,j < 20→x[j]? = some true:=fun j K=>by
    rcases (by omega:j = 0 ∨ j = 1 ∨ j = 2 ∨ j = 3 ∨ j = 4 ∨ j = 5 ∨ j = 6 ∨ j = 7 ∨ j = 8 ∨ j = 9 ∨ j = 10 ∨ j = 11 ∨ j = 12 ∨ j = 13 ∨ j = 14 ∨ j = 15 ∨ j = 16 ∨ j = 17 ∨ j = 18 ∨ j = 19) with rfl | rfl | rfl | rfl | rfl | rfl | rfl | rfl | rfl | rfl | rfl | rfl | rfl | rfl | rfl | rfl | rfl | rfl | rfl | rfl <;> assumption
   rw [uj i xJ] at xy; cases xy
  have xn:∀ (b o:Nat) (u:Value),W0.cell? (J b o) = some u→¬ x[17]? = some true→V.cell? (J b o) = some u:=fun b o u hu hn17=>((jB hn17).cell (p:=(J b o)) (yK W0 _ hu)).trans hu
  clear jB xo
  match i,Z with
  | 0,Z | 1,Z | 5,Z =>
   obtain rfl:=ya Z
   clear Q hD
   rw [if_pos (by rfl)];unfold Oper.wp;go_simp
   exact ⟨upd f _ (I mb 0),by simp [upd],zw (U HD) (by decide) (by decide) (fun _ _ h=>h) (U ui) rfl⟩
  | 2,Z =>
   obtain rfl:=ya Z
   have g:f 1 = I mb 0:=hD 1 (ye Q 1 rfl)
   clear Q hD
   rw [if_pos (by rfl)];unfold Oper.wp;go_simp
   exact ⟨upd f 2 (I mb 0),by simp [upd,g],zw (U HD) (by decide) (by decide) (fun _ _ h=>h) (U ui) rfl⟩
  | 3,Z =>
   obtain rfl:=ya Z
   have g:f 2 = I mb 0:=hD 2 (ye Q 2 rfl)
   clear Q hD
   rw [if_pos (by rfl)];unfold Oper.wp;go_simp
   exact ⟨upd f 3 (I mb 8),by simp [upd,g],zw (U HD) (by decide) (by decide) (fun _ _ h=>h) (U ui) rfl⟩
  | 4,Z =>
   obtain rfl:=ya Z
   have g:f 3 = I mb 8:=hD 3 (ye Q 3 rfl)
   have n17:=n17' (by omega) (by omega)
   have y8:=xn mb 8 _ (U aA) n17
   clear Q hD
   rw [if_pos (by rfl)];unfold Oper.wp;go_simp
   exact ⟨upd f 4 (vt),by simp [upd,g],zw (U HD) (by decide) (by decide) (fun _ _ h=>h) (U ui) rfl⟩
  | 6,Z =>
   obtain rfl:=ya Z
   have g:f 5 = I mb 0:=hD 5 (ye Q 5 rfl)
   clear Q hD
   rw [if_pos (by rfl)];unfold Oper.wp;go_simp
   exact ⟨upd f 6 (I mb 0),by simp [upd,g],zw (U HD) (by decide) (by decide) (fun _ _ h=>h) (U ui) rfl⟩
  | 7,Z =>
   obtain rfl:=ya Z
   have g:f 6 = I mb 0:=hD 6 (ye Q 6 rfl)
   clear Q hD
   rw [if_pos (by rfl)];unfold Oper.wp;go_simp
   exact ⟨upd f 7 (I mb 2),by simp [upd,g],zw (U HD) (by decide) (by decide) (fun _ _ h=>h) (U ui) rfl⟩
  | 8,Z =>
   obtain rfl:=ya Z
   have g:f 7 = I mb 2:=hD 7 (ye Q 7 rfl)
   clear Q hD
   rw [if_pos (by rfl)];unfold Oper.wp;go_simp
   exact ⟨upd f 8 (I mb 2),by simp [upd,g],zw (U HD) (by decide) (by decide) (fun _ _ h=>h) (U ui) rfl⟩
  | 9,Z =>
   obtain rfl:=ya Z
   have g:f 8 = I mb 2:=hD 8 (ye Q 8 rfl)
   have n17:=n17' (by omega) (by omega)
   have y2:=xn mb 2 _ (U vC) n17
   clear Q hD
   rw [if_pos (by rfl)];unfold Oper.wp;go_simp
   exact ⟨upd f 9 (H t.id),by simp [upd,g],zw (U HD) (by decide) (by decide) (fun _ _ h=>h) (U ui) rfl⟩
  | 10,Z =>
   obtain rfl:=ya Z
   clear Q hD
   rw [if_pos (by rfl)];unfold Oper.wp;go_simp
   exact ⟨upd f 10 (yp w 0),by simp [upd],zw (U HD) (by decide) (by decide) (fun _ _ h=>h) (U ui) rfl⟩
  | 11,Z =>
   obtain rfl:=ya Z
   have g:f 10 = yp w 0:=hD 10 (ye Q 10 rfl)
   have n17:=n17' (by omega) (by omega)
   have z0:=xn w.heap.size 0 _ (U HF0) n17
   clear Q hD
   rw [if_pos (by rfl)];unfold Oper.wp;go_simp
   exact ⟨upd f 11 (H uL),by simp [upd,g],zw (U HD) (by decide) (by decide) (fun _ _ h=>h) (U ui) rfl⟩
  | 12,Z =>
   obtain rfl:=ya Z
   clear Q hD
   rw [if_pos (by rfl)];unfold Oper.wp;go_simp
   exact ⟨upd f 12 (H qty),by simp [upd],zw (U HD) (by decide) (by decide) (fun _ _ h=>h) (U ui) rfl⟩
  | 13,Z =>
   obtain rfl:=ya Z
   clear Q hD
   rw [if_pos (by rfl)];unfold Oper.wp;go_simp
   exact ⟨upd f 13 (yp w 2),by simp [upd],zw (U HD) (by decide) (by decide) (fun _ _ h=>h) (U ui) rfl⟩
  | 14,Z =>
   obtain rfl:=ya Z
   have g:f 13 = yp w 2:=hD 13 (ye Q 13 rfl)
   have n17:=n17' (by omega) (by omega)
   have z2:=xn w.heap.size 2 _ (U HF2) n17
   clear Q hD
   rw [if_pos (by rfl)];unfold Oper.wp;go_simp
   exact ⟨upd f 14 (H xw),by simp [upd,g],zw (U HD) (by decide) (by decide) (fun _ _ h=>h) (U ui) rfl⟩
  | 15,Z =>
   obtain rfl:=ya Z
   have g9:f 9 = H t.id:=hD 9 (ye Q 9 rfl)
   have vF:f 11 = H uL:=hD 11 (ye Q 11 rfl)
   have xZ:f 12 = H qty:=hD 12 (ye Q 12 rfl)
   have kw:f 14 = H xw:=hD 14 (ye Q 14 rfl)
   clear Q hD
   rw [if_pos (by rfl)];unfold Oper.wp;go_simp
   exact ⟨upd f 15 (evV (trE t.id uL qty xw)),by simp [upd,g9,vF,xZ,kw,evV,trE,zCm],zw (U HD) (by decide) (by decide) (fun _ _ h=>h) (U ui) rfl⟩
  | 16,Z =>
   obtain rfl:=ya Z
   have g:f 15 = evV (trE t.id uL qty xw):=hD 15 (ye Q 15 rfl)
   have n17:=n17' (by omega) (by omega)
   have xT:=U ui n17
   clear Q hD
   unfold evV trE at g
   rw [if_pos (by rfl)];unfold Oper.wp;go_simp
   refine ⟨upd f 16 (.slice (some (yq V 0)) 1 1),by simp [upd,g],zw (U HD) (by decide) (by decide) (dt_alloc n17) (fun _=>xT.alloc xT.size _) ⟨V.heap.size,rfl,fun _=>?_⟩⟩
   exact cellsT V (trE t.id uL qty xw) 46
  | 17,Z =>
   obtain rfl:=ya Z
   have g4:f 4 = vt:=hD 4 (ye Q 4 rfl)
   obtain ⟨s,g16,ol⟩:=hD 16 (ye Q 16 rfl)
   have n17:¬ x[17]? = some true:=by rw [xy]; simp
   have n20:=n20' (by omega)
   have xT:=U ui n17
   have uU:ERow V B vt ts:=zI (U vK) xT
   rw [if_pos (by rfl)]
   refine wp_append_own V (.tmp 17) (.tmp 29) 38 rfl B 46 i0 _ 14 120 Tryz.underlying38 uH uF uJ uQ rfl (by decide) vt ts.length (ts.flatMap Ev.vs) g4 uU (J s 0) 1 1 (trE t.id uL qty xw).vs g16 rfl (ol n17) (one_ev _) (by unfold maxLen; omega) (by omega) (by have:=xT.size; omega) ?_
   intro v' w' xN uk _
   obtain ⟨ga,gc,rfl⟩:=dQ xN (by omega)
   refine ⟨upd f 17 (.slice (some (J ga 0)) (ts.length + 1) gc),rfl,rt_one (by decide) (U HD) xy n20 (fun j v K h=>dt_one j v K h) ⟨some (J ga 0),gc,rfl,trivial,fun _=>⟨?_,?_⟩,fun h=>h.elim⟩⟩
   ·show World.ownsRow _ _ _ _ _ (ts ++ [trE t.id uL qty xw]).length _
    rw [yP,List.flatMap_append]; simpa using xN
   ·exact (ba xT qt).trans uk
  | 18,Z =>
   obtain rfl:=ya Z
   have g:f 0 = I mb 0:=hD 0 (ye Q 0 rfl)
   clear Q hD
   rw [if_pos (by rfl)];unfold Oper.wp;go_simp
   exact ⟨upd f 18 (I mb 0),by simp [upd,g],zw (U HD) (by decide) (by decide) (fun _ _ h=>h) (U ui) rfl⟩
  | 19,Z =>
   obtain rfl:=ya Z
   have g:f 18 = I mb 0:=hD 18 (ye Q 18 rfl)
   clear Q hD
   rw [if_pos (by rfl)];unfold Oper.wp;go_simp
   exact ⟨upd f 19 (I mb 8),by simp [upd,g],zw (U HD) (by decide) (by decide) (fun _ _ h=>h) (U ui) rfl⟩
  | 20,Z =>
   obtain rfl:=ya Z
   have g19:f 19 = I mb 8:=hD 19 (ye Q 19 rfl)
   have k17:x[17]? = some true:=Q ⟨17,.data⟩ (by simp) rfl
   have n20:¬ x[20]? = some true:=by rw [xy]; simp
   obtain ⟨ga,gc,g17,-,hfa,-⟩:=hD 17 k17
   obtain ⟨jV,uk⟩:=hfa n20
   have qW:some mb ≠ vt.ownBlock:=hnt
   have y8:=uk.cell (U aA) qW
   have f8:V.frozen? (J mb 8) = false:=(World.frozen?_of_block (a:=(J mb 8)) (uk.block mb (by omega) qW)).trans (U HF8)
   have jM:=Y (g17 ▸ jV)
   have pA:Hid (∃ xr,V.heap[mb]? = some (.cells xr 157 (0,0))):=by obtain ⟨xr,hc⟩:=U ux; exact ⟨xr,(uk.block mb (by omega) qW).trans hc⟩
   have ph:=Y uk
   clear Q hD jV uk hfa
   rw [if_pos (by rfl)];unfold Oper.wp;go_simp
   refine ⟨upd f 20 M,by simp [upd,g19,g17],rt_two (by decide) (U HD) k17 xy (fun j K hxj h=>dt_two j K h (fun hj17=>?_)) trivial⟩
   subst hj17
   obtain ⟨-,-,-,-,-,-⟩:=h
   refine ⟨ga,gc,g17,trivial,fun h=>absurd trivial h,fun _=>?_⟩
   rw [g17]
   refine ⟨yM _ _ _ y8,zu (U jM) (zl (U jM) (U pA) (by decide)) 8 _,?_⟩
   exact cy (bL (U ph) (by omega) qW) (dj (o:=7) _ _)
  | i + 21,Z=>simp at Z
end Go.Proofs.YtbakanofkghmiaaGreat
