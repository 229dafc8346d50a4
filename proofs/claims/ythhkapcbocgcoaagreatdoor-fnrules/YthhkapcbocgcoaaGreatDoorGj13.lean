/-
  A region that draws its order, with two operations that write, the one behind the other: what holds of each value that has come up. No function walked.
-/
import Derived.Test.YthhkapcbocgcoaaGreatDoorGj12
set_option linter.unusedVariables false
set_option maxHeartbeats 6400000
set_option maxRecDepth 100000
namespace Go.Proofs.YthhkapcbocgcoaaGreatDoor
open Go.RowKit
def RT (B0:World→Prop) (hR:(Nat→Value)→Act) (k h:Nat) (h2:Prop→Prop→World→Nat→Value→Prop) (x:List Bool) (hb:Act) (W:World):Prop :=
 ∃ f,hb = hR f∧(¬ x[k]? = some true→B0 W)∧∀ j,x[j]? = some true→h2 (x[k]? = some true) (x[h]? = some true) W j (f j)
section
variable {B0:World→Prop} {W W':World} {k h:Nat} {h2:Prop→Prop→World→Nat→Value→Prop} {x:List Bool} {f:Nat→Value}
theorem zO (hh:∀ j,x[j]? = some true→h2 (x[k]? = some true) (x[h]? = some true) W j (f j)) {i:Nat} (hik:i ≠ k) (hih:i ≠ h) (hm:∀ j v,h2 (x[k]? = some true) (x[h]? = some true) W j v→h2 (x[k]? = some true) (x[h]? = some true) W' j v) (hB:¬ x[k]? = some true→B0 W') {v:Value} (hv:h2 (x[k]? = some true) (x[h]? = some true) W' i v) :
  (¬ (x.set i true)[k]? = some true→B0 W')∧∀ j,(x.set i true)[j]? = some true→h2 ((x.set i true)[k]? = some true) ((x.set i true)[h]? = some true) W' j (upd f i v j):=by
 rw [yX hik,yX hih]
 refine ⟨hB,fun j hj=>?_⟩
 by_cases hji:j = i
 ·subst hji; rw [zt]; exact hv
 ·rw [zq _ _ hji]
  rw [yX (fun e=>hji e.symm)] at hj
  exact hm _ _ (hh j hj)
theorem rt_one (hkh:k ≠ h) (hh:∀ j,x[j]? = some true→h2 (x[k]? = some true) (x[h]? = some true) W j (f j)) (E:x[k]? = some false) (hn:¬ x[h]? = some true) (hm:∀ j v,j ≠ k→h2 False False W j v→h2 True False W' j v) {v:Value} (hv:h2 True False W' k v) :
  (¬ (x.set k true)[k]? = some true→B0 W')∧∀ j,(x.set k true)[j]? = some true→h2 ((x.set k true)[k]? = some true) ((x.set k true)[h]? = some true) W' j (upd f k v j):=by
 have e:((x.set k true)[k]? = some true) = True:=by
  rw [List.getElem?_set_self (yH.1 E).1]; simp
 have e2:((x.set k true)[h]? = some true) = False:=by
  rw [yX hkh]; exact eq_false hn
 have e3:(x[h]? = some true) = False:=eq_false hn
 have e4:(x[k]? = some true) = False:=by rw [E]; simp
 rw [e,e2]
 refine ⟨fun h=>absurd trivial h,fun j hj=>?_⟩
 by_cases hji:j = k
 ·subst hji; rw [zt]; exact hv
 ·rw [zq _ _ hji]
  rw [yX (fun e=>hji e.symm)] at hj
  have:=hh j hj
  rw [e3,e4] at this
  exact hm j _ hji this
theorem rt_two (hkh:h ≠ k) (hh:∀ j,x[j]? = some true→h2 (x[k]? = some true) (x[h]? = some true) W j (f j)) (E:x[k]? = some true) (hn:x[h]? = some false) (hm:∀ j,j ≠ h→x[j]? = some true→h2 True False W j (f j)→h2 True True W' j (f j)) {v:Value} (hv:h2 True True W' h v) :
  (¬ (x.set h true)[k]? = some true→B0 W')∧∀ j,(x.set h true)[j]? = some true→h2 ((x.set h true)[k]? = some true) ((x.set h true)[h]? = some true) W' j (upd f h v j):=by
 have e:((x.set h true)[h]? = some true) = True:=by
  rw [List.getElem?_set_self (yH.1 hn).1]; simp
 have e2:((x.set h true)[k]? = some true) = True:=by
  rw [yX hkh,E]; simp
 have e3:(x[h]? = some true) = False:=by rw [hn]; simp
 have e4:(x[k]? = some true) = True:=by rw [E]; simp
 rw [e,e2]
 refine ⟨fun h=>absurd trivial h,fun j hj=>?_⟩
 by_cases hji:j = h
 ·subst hji; rw [zt]; exact hv
 ·rw [zq _ _ hji]
  rw [yX (fun e=>hji e.symm)] at hj
  have:=hh j hj
  rw [e3,e4] at this
  exact hm j hji hj this
end
def trE (ut aJ qty aK:Int):Ev:=⟨3,zCm,ut,aJ,qty,aK,0⟩
abbrev ERow (W:World) (B:Nat) (v:Value) (l:List Ev):Prop:=W.ownsRow B 37 14 v l.length (l.flatMap Ev.vs)
theorem infoEv:(Tryz.prog.info? 37).map (fun i=>(i.zero,i.size,i.bytes)) = some (some (.agg (yv 0 0 0 0 0 0 0 0 ⟨#[]⟩ 0 0 0 0 0).toArray),14,120):=by kernel_rfl
theorem one_ev (e:Ev):∀ u ∈ e.vs,u.oneCell' = true:=by
 intro u hu
 simp [Ev.vs] at hu
 rcases hu with rfl | rfl | rfl | rfl | rfl | rfl | rfl | rfl | rfl | rfl | rfl | rfl | rfl | rfl <;> rfl
theorem zN {W W':World} {B:Nat} {v:Value} {l:List Ev} (h:ERow W B v l) (A:yn W W'):ERow W' B v l :=
 World.ownsRow.kept h (row:=none) (ep A hU) (by cases v.ownBlock <;> simp)
theorem ed {W:World} {B:Nat} {v:Value} {l:List Ev} (h:ERow W B v l) {b:Nat} (A:b < B) (o:Nat) (u:Value):ERow (W.setCell (J b o) u) B v l :=
 ownsRow_setCell_below h (a:=(J b o)) A u
theorem row_sliceT {W:World} {B e sz n:Nat} {v:Value} {xs:List Value} (h:W.ownsRow B e sz v n xs) (hn:0 < n):∃ g c,v = .slice (some (J g 0)) n c:=by
 rcases h.2 with ⟨_,h0⟩ | ⟨g,cap,_,Q,_⟩
 ·omega
 ·exact ⟨g,cap,Q⟩
theorem cellsT (W:World) (e:Ev) (t:TypeId):∀ j u,e.vs[j]? = some u→(W.alloc (Obj.cells e.vs.toArray t)).cell? (((yq W 0):Addr).add j) = some u:=fun j u h=>cellsQ W e.vs t j u h
def DT (mb fb B:Nat) (W0:World) (vt:Value) (ts:List Ev) (ut aJ qty aK:Int) (p q:Prop) (V:World):Nat→Value→Prop
 | 0,v=>v = I mb 0
 | 1,v=>v = I mb 0
 | 2,v=>v = I mb 0
 | 3,v=>v = I mb 8
 | 4,v=>v = vt
 | 5,v=>v = I mb 0
 | 6,v=>v = I mb 0
 | 7,v=>v = I mb 2
 | 8,v=>v = I mb 2
 | 9,v=>v = H ut
 | 10,v=>v = I fb 0
 | 11,v=>v = H aJ
 | 12,v=>v = H qty
 | 13,v=>v = I fb 2
 | 14,v=>v = H aK
 | 15,v=>v = evV (trE ut aJ qty aK)
 | 16,v=>∃ s,v = .slice (some (J s 0)) 1 1∧(¬ p→∀ j u,(trE ut aJ qty aK).vs[j]? = some u→V.cell? (((J s 0):Addr).add j) = some u)
 | 17,v=>∃ a c,v = .slice a (ts.length + 1) c∧p∧(¬ q→ERow V B v (ts ++ [trE ut aJ qty aK])∧W0.grownBy V vt.ownBlock)∧(q→V.cell? (J mb 8) = some v∧ERow V B v (ts ++ [trE ut aJ qty aK])∧TookAt mb 7 vt.ownBlock W0 V)
 | 18,v=>v = I mb 0
 | 19,v=>v = I mb 8
 | _,_=>True
section
variable {mb fb B:Nat} {W0 V V':World} {vt:Value} {ts:List Ev} {ut aJ qty aK:Int} {p q:Prop}
theorem dt_alloc {o:Obj} (hp:¬ p):∀ j v,DT mb fb B W0 vt ts ut aJ qty aK p q V j v→DT mb fb B W0 vt ts ut aJ qty aK p q (V.alloc o) j v:=by
 intro j v h
 match j with
 | 0 | 1 | 2 | 3 | 4 | 5 | 6 | 7 | 8 | 9 | 10 | 11 | 12 | 13 | 14 | 15 | 18 | 19=>exact h
 | 16 =>
  obtain ⟨s,Q,D⟩:=h
  exact ⟨s,Q,fun hp j u hu=>(yW _ _ _ (yL V _ (D hp j u hu))).trans (D hp j u hu)⟩
 | 17=>obtain ⟨_,_,_,D,_⟩:=h; exact absurd D hp
 | j + 20=>trivial
theorem dt_one:∀ j v,j ≠ 17→DT mb fb B W0 vt ts ut aJ qty aK False False V j v→DT mb fb B W0 vt ts ut aJ qty aK True False V' j v:=by
 intro j v hj h
 match j with
 | 0 | 1 | 2 | 3 | 4 | 5 | 6 | 7 | 8 | 9 | 10 | 11 | 12 | 13 | 14 | 15 | 18 | 19=>exact h
 | 16 =>
  obtain ⟨s,Q,D⟩:=h
  exact ⟨s,Q,fun hp=>absurd trivial hp⟩
 | 17=>exact absurd rfl hj
 | j + 20=>trivial
theorem dt_two {v:Value}:∀ j,j ≠ 20→DT mb fb B W0 vt ts ut aJ qty aK True False V j v→(j = 17→DT mb fb B W0 vt ts ut aJ qty aK True True V' 17 v)→DT mb fb B W0 vt ts ut aJ qty aK True True V' j v:=by
 intro j hj h jK
 match j with
 | 0 | 1 | 2 | 3 | 4 | 5 | 6 | 7 | 8 | 9 | 10 | 11 | 12 | 13 | 14 | 15 | 18 | 19=>exact h
 | 16 =>
  obtain ⟨s,Q,D⟩:=h
  exact ⟨s,Q,fun hp=>absurd trivial hp⟩
 | 17=>exact jK rfl
 | j + 20=>trivial
end
structure MatS (mb B:Nat) (W:World) (next:Int) (vq:Value) (l:List Od) (t:Od) (vt:Value) (ts:List Ev):Prop where
 cells:W.rangeAt mb 0 [.int .i64 next,vq,.int .i64 t.id,.int .i64 t.side,.int .i64 t.ticks,.int .i64 t.left,.int .i64 t.life,.string t.tag,vt]
 there:W.there mb 0 9
 orow:ORow W B vq l
 erow:ERow W B vt ts
 box:∃ cur,W.heap[mb]? = some (.cells cur 259 (0,0))
 le:B ≤ W.heap.size
structure KeptBut (mb B:Nat) (w w':World):Prop where
 os:w'.os = w.os
 tape:w'.tape = w.tape
 output:w'.output = w.output
 size:w.heap.size ≤ w'.heap.size
 block:∀ k,k < B→k ≠ mb→w'.heap[k]? = w.heap[k]?
theorem eS {mb B:Nat} {w w1 w2:World} (Q:KeptBut mb B w w1) (D:KeptBut mb B w1 w2):KeptBut mb B w w2 :=
 ⟨D.os.trans Q.os,D.tape.trans Q.tape,D.output.trans Q.output,yO Q.size D.size,fun k E hm=>(D.block k E hm).trans (Q.block k E hm)⟩
theorem gA {mb B C:Nat} {w w1:World} (h:Below C w w1) (hC:B ≤ C):KeptBut mb B w w1 :=
 ⟨h.os,h.tape,h.output,h.size,fun k E _=>h.block k (by omega)⟩
theorem kept_took {mb B o:Nat} {G:Option Nat} {w w1:World} (h:TookAt mb o G w w1) (hB:B ≤ w.heap.size) (hG:∀ g,G = some g→B ≤ g):KeptBut mb B w w1 :=
 ⟨h.os,h.tape,h.output,h.size,fun k E hm=>h.block k (by omega) hm (fun e=>by have:=hG k e.symm; omega)⟩
theorem kept_set {mb B:Nat} (w:World) (o:Nat) (u:Value):KeptBut mb B w (w.setCell (J mb o) u) :=
 ⟨rfl,rfl,rfl,by simp [World.setCell],fun k _ hm=>yT _ _ _ _ hm⟩
theorem kept_drew {mb B:Nat} {w w1:World} (h:KeptBut mb B w w1):KeptBut mb B w w1.drew:=⟨h.os,h.tape,h.output,h.size,h.block⟩
theorem row_took {p o B e sz n:Nat} {G:Option Nat} {v:Value} {xs:List Value} {w w':World} (h:w.ownsRow B e sz v n xs) (ht:TookAt p o G w w') (hp:some p ≠ v.ownBlock) (xC:v.ownBlock = none ∨ v.ownBlock ≠ G):w'.ownsRow B e sz v n xs:=by
 refine ⟨h.1,?_⟩
 rcases h.2 with hn | ⟨g,cap,xz,rfl,A,hgg,rest⟩
 ·exact .inl hn
 ·refine .inr ⟨g,cap,xz,rfl,A,?_,rest⟩
  rw [ht.block g (yZ.1 hgg).1 (by simpa [Value.ownBlock] using Ne.symm hp) (by simpa [Value.ownBlock] using xC)]
  exact hgg
theorem df {B e sz n b:Nat} {T:TypeId} {v:Value} {xs:List Value} {w:World} (h:w.ownsRow B e sz v n xs) (A:∃ xz,w.heap[b]? = some (.cells xz T (0,0))) (xC:T ≠ e):some b ≠ v.ownBlock:=by
 obtain ⟨cb,A⟩:=A
 rcases h.2 with ⟨rfl,_⟩ | ⟨g,cap,xz,rfl,_,hgg,rest⟩
 ·simp [Value.ownBlock]
 ·intro e0
  simp only [Value.ownBlock,Option.some.injEq] at e0
  subst e0
  rw [A] at hgg
  simp only [Option.some.injEq,Obj.cells.injEq] at hgg
  exact xC hgg.2.1
theorem MatS.nq {mb B:Nat} {W:World} {next:Int} {vq:Value} {l:List Od} {t:Od} {vt:Value} {ts:List Ev} (h:MatS mb B W next vq l t vt ts):some mb ≠ vq.ownBlock:=df h.orow h.box (by decide)
theorem MatS.nt {mb B:Nat} {W:World} {next:Int} {vq:Value} {l:List Od} {t:Od} {vt:Value} {ts:List Ev} (h:MatS mb B W next vq l t vt ts):some mb ≠ vt.ownBlock:=df h.erow h.box (by decide)
theorem MatS.lt {mb B:Nat} {W:World} {next:Int} {vq:Value} {l:List Od} {t:Od} {vt:Value} {ts:List Ev} (h:MatS mb B W next vq l t vt ts):mb < W.heap.size:=by
 obtain ⟨xz,h⟩:=h.box
 exact (yZ.1 h).1
theorem dY {B B' e e' sz sz' n n':Nat} {v v':Value} {xs xs':List Value} {w:World} (h:w.ownsRow B e sz v n xs) (h':w.ownsRow B' e' sz' v' n' xs') (xC:e ≠ e'):v.ownBlock = none ∨ v.ownBlock ≠ v'.ownBlock:=by
 rcases h.2 with ⟨rfl,_⟩ | ⟨g,cap,xz,rfl,A,hgg,rest⟩
 ·exact .inl rfl
 ·refine .inr ?_
  rcases h'.2 with ⟨rfl,_⟩ | ⟨g',jJ,cur',rfl,hb',hgg',rest'⟩
  ·simp [Value.ownBlock]
  ·intro e0
   simp only [Value.ownBlock,Option.some.injEq] at e0
   subst e0
   rw [hgg] at hgg'
   simp only [Option.some.injEq,Obj.cells.injEq] at hgg'
   exact xC hgg'.2.1
theorem trade_any (mb B:Nat) (next:Int) (vq:Value) (l:List Od) (t:Od) (vt:Value) (ts:List Ev) (o:Od) (k:Nat) (w:World) (h:MatS mb B w next vq l t vt ts)
  (E:plc l o.id = k) (hc:l[k]? = some o) (hn:l.length ≤ 1000) (hts:ts.length ≤ 1000) (ht0:0 ≤ t.left) (ht1:t.left ≤ 1000000) (ho0:0 ≤ o.left) (qA:o.left ≤ 1000000) (qty:Int) (hq:qty = min t.left o.left) :
  Calls Tryz.prog 213 #[I mb 0,.agg (yw o.id o.side o.ticks o.left o.life o.tag).toArray] w fun e w' =>
   ∃ uG vt',e = ym (.tuple #[])∧MatS mb B w' next uG (bQ l k o qty) { t with left:=t.left - qty } vt' (ts ++ [trE t.id o.id qty o.ticks])∧KeptBut mb B w w':=by
 obtain ⟨uH,uR,xv,xH,uQ,qr⟩:=o
 simp only at *
 have HM:=M h
 have hmw:=h.lt
 have jU:=h.le
 have hnq:=h.nq
 have hnt:=h.nt
 have xU:Hid (yn w (w.alloc (O (yw uH uR xv xH uQ qr).toArray 65))):=gZ _ _
 have km:=zc h.cells (U xU) hmw
 have oR:=zm w (yw uH uR xv xH uQ qr) 65
 have y5:=km 5 _ rfl
 have z3:=oR 3 _ rfl
 simp only [Nat.zero_add] at y5 z3
 have vm:=M km
 have HF1:=M oR
 have HK:=M E
 have HC:=M hc
 have HQ:=M hq
 clear h km oR E hc hq
 go_enter Tryz.func213,Tryz.ntmps213
 go_wp2_with fail
 have HF1:Hid (World.rangeAt (w.alloc (O (yw uH uR xv xH uQ qr).toArray 65)) w.heap.size 0 (yw uH uR xv xH uQ qr)):=U HF1
 have z3:World.cell? (w.alloc (O (yw uH uR xv xH uQ qr).toArray 65)) (yq w 3) = some (H xH):=z3
 generalize (w.alloc (O (yw uH uR xv xH uQ qr).toArray 65)) = W1 at xU vm HF1 y5 z3 ⊢
 have hmin:∀ W,(Builtin.min_ #[3,3] 3 #[H t.left,H xH]).run Tryz.prog W = .ok (H qty) W:=fun W=>by
  rw [U HQ]
  by_cases qx:t.left ≤ xH
  ·rw [Int.min_eq_left qx]; go_simp; omega
  ·rw [Int.min_eq_right (by omega)]; go_simp
 go_quiet (fail)
 go_wp2_with fail
 have hB0:Hid (yn w (W1.drewN nq)):=dI (U xU) nq
 have hM:Hid ((W1.drewN nq).rangeAt mb 0 [H next,vq,H t.id,H t.side,H t.ticks,H t.left,H t.life,yk t.tag,vt]):=U vm
 have hFF:Hid ((W1.drewN nq).rangeAt w.heap.size 0 (yw uH uR xv xH uQ qr)):=U HF1
 have hT9:Hid ((W1.drewN nq).there mb 0 9):=zk (U HM).there (U hB0) hmw
 have HROW:Hid (ERow (W1.drewN nq) B vt ts):=zN (U HM).erow (U hB0)
 have qC:Hid (∃ xz,(W1.drewN nq).heap[mb]? = some (.cells xz 259 (0,0))):=by obtain ⟨xz,hc⟩:=(U HM).box; exact ⟨xz,((U hB0).block mb hmw).trans hc⟩
 have HORO:Hid (ORow (W1.drewN nq) B vq l):=zp (U HM).orow (U hB0)
 have xF:w.heap.size < (W1.drewN nq).heap.size:=yL (W1.drewN nq) (yq w (0 + 0)) (U hFF 0 _ rfl)
 clear y5 z3 hmin vm HF1 xU
 generalize W1.drewN nq = W0 at hB0 hM hFF hT9 HROW HORO qC xF ⊢
 have HM8:Hid (W0.cell? (J mb 8) = some vt):=U hM 8 _ rfl
 have jG:Hid (W0.cell? (J mb 2) = some (H t.id)):=U hM 2 _ rfl
 have HF0:Hid (W0.cell? (yq w 0) = some (H uH)):=U hFF 0 _ rfl
 have HF2:Hid (W0.cell? (yq w 2) = some (H xv)):=U hFF 2 _ rfl
 have HF8:Hid (W0.frozen? (J mb 8) = false):=by have:=(U hT9 8 (by omega)).2; rwa [Nat.zero_add] at this
 have hmw0:mb < W0.heap.size:=by omega
 have hBW0:B ≤ W0.heap.size:=by omega
 obtain ⟨i0,uJ,uD,uz,uM⟩:=info_parts infoEv
 refine zn (RT (fun V=>yn W0 V) (fun f=>{ tmps:=#[I mb 0,.agg (yw uH uR xv xH uQ qr).toArray,Z,yp w 0,H qty,I mb 0,I mb 0,I mb 2,I mb 5,H t.left,yp w 3,H xH,H qty,f 0,f 1,f 2,f 3,f 4,f 5,f 6,f 7,f 8,f 9,f 10,f 11,f 12,f 13,f 14,f 15,f 16,f 17,f 18,f 19,Z,Z,Z,Z,Z,Z,Z,Z,Z,Z,Z,Z,Z,Z,Z,Z,Z],defers:=[] }) 17 20 (DT mb w.heap.size B W0 vt ts t.id uH qty xv)) (by kernel_rfl) ?_ ?_ ?_
 ·exact ⟨fun _=>Z,rfl,fun _=>⟨rfl,rfl,rfl,Nat.le_refl _,fun _ _=>rfl⟩,fun j hj=>by rw [yJ] at hj; split at hj <;> simp at hj⟩
 ·rintro x hb V ⟨f,rfl,-,hD⟩ hx xN
  have xp:=zX xN hx (acyc _ (by kernel_rfl))
  have k17:x[17]? = some true:=xp 17 (by simp)
  have k20:x[20]? = some true:=xp 20 (by simp)
  obtain ⟨va,vc,-,-,-,vU⟩:=hD 17 k17
  obtain ⟨q1,q2,q3⟩:=vU k20
  have jp:Hid (_∧_∧_):=⟨q1,q2,q3⟩
  clear hD xp xN hx k17 k20 vU q1 q2 q3
  dsimp only
  generalize f 17 = v17 at jp ⊢
  generalize f 0 = a0,f 1 = a1,f 2 = a2,f 3 = a3,f 4 = a4,f 5 = a5,f 6 = a6,f 7 = a7,f 8 = a8,f 9 = a9,f 10 = a10,f 11 = a11,f 12 = a12,f 13 = a13,f 14 = a14,f 15 = a15,f 16 = a16,f 18 = a18,f 19 = a19
  obtain ⟨q1,q2,q3⟩:=U jp
  have hvtB:∀ g,vt.ownBlock = some g→B ≤ g∧g < w.heap.size:=(U HM).erow.lt
  have z0:V.cell? (yq w 0) = some (H uH):=(yR (a:=(yq w 0)) (q3.block w.heap.size xF (by omega) (fun e=>by have:=hvtB _ e.symm; omega))).trans (U HF0)
  have y5:V.cell? (J mb 5) = some (H t.left):=(q3.cell 5 (by omega)).trans (U hM 5 _ rfl)
  have f5:V.frozen? (J mb 5) = false:=(q3.frozen 5).trans (by have:=(U hT9 5 (by omega)).2; rwa [Nat.zero_add] at this)
  have bd:IntKind.i64.wrap (t.left - qty) = t.left - qty:=by rw [IntKind.wrap_i64]; have:=U HQ; omega
  have hbxV:∃ xz,V.heap[mb]? = some (.cells xz 259 (0,0)):=by obtain ⟨xz,hc⟩:=U qC; exact q3.kind _ _ _ hc
  have hn17:some mb ≠ v17.ownBlock:=df q2 hbxV (by decide)
  have HBX2:Hid (∃ xz,(V.setCell (J mb 5) (H (t.left - qty))).drew.heap[mb]? = some (.cells xz 259 (0,0))):=by obtain ⟨xz,hc⟩:=hbxV; exact dh V mb 5 _ hc
  have hms2:mb < (V.setCell (J mb 5) (H (t.left - qty))).drew.heap.size:=by
   have:=q3.size
   show mb < (V.setCell (J mb 5) (H (t.left - qty))).heap.size
   simp [World.setCell]; omega
  have q4:ORow V B vq l:=row_took (U HORO) q3 hnq (dY (U HORO) (U HROW) (by decide))
  have Z0:(V.setCell (J mb 5) (H (t.left - qty))).drew.cell? (yq w 0) = some (H uH):=(yM _ _ _ _ (fun e=>by have:=congrArg Addr.block e; simp at this; omega)).trans z0
  have qy:Hid (ORow (V.setCell (J mb 5) (H (t.left - qty))).drew B vq l):=cw q4 hnq 5 _
  have oX:Hid (ERow (V.setCell (J mb 5) (H (t.left - qty))).drew B v17 (ts ++ [trE t.id uH qty xv])):=cw q2 (df q2 hbxV (by decide)) 5 _
  have kG:Hid ((V.setCell (J mb 5) (H (t.left - qty))).drew.cell? (J mb 5) = some (H (t.left - qty))):=yN _ _ _ y5
  have uX:Hid (∀ j,j ≠ 5→(V.setCell (J mb 5) (H (t.left - qty))).drew.cell? (J mb j) = V.cell? (J mb j)):=fun j hj=>yM _ _ _ _ (bZ (fun e=>hj e.symm))
  have HFR:Hid (∀ j,(V.setCell (J mb 5) (H (t.left - qty))).drew.frozen? (J mb j) = V.frozen? (J mb j)):=fun j=>World.frozen?_setCell _ _ _ _
  have xK:Hid (KeptBut mb B w (V.setCell (J mb 5) (H (t.left - qty))).drew):=kept_drew (eS (eS (gA (U hB0) (by omega)) (kept_took q3 (by omega) (fun g hg=>(hvtB g hg).1))) (kept_set V 5 _))
  have ug:B ≤ (V.setCell (J mb 5) (H (t.left - qty))).drew.heap.size:=by
   have:=q3.size
   show B ≤ (V.setCell (J mb 5) (H (t.left - qty))).heap.size
   simp [World.setCell]; omega
  clear q2 q4 jp hbxV
  have Q1:=M q1
  have Q3:=M q3
  clear q1 q3 z0
  go_wp2_with fail
  generalize oz:V.setCell (J mb 5) (H (t.left - qty)) = V2 at Z0 qy oX kG uX HFR xK ug HBX2 hms2 ⊢
  clear oz y5 f5 bd
  refine zS 6 (by kernel_rfl) (by kernel_rfl) ?_
  simp only [yU,List.take_zero,yV,List.drop_zero]
  repeat still_step
  refine wpStill_nil ?_
  go_wp2_with fail
  refine (gm mb 0 B next uH qty vq l k ⟨uH,uR,xv,xH,uQ,qr⟩ _ ((U uX 0 (by omega)).trans (((U Q3).cell 0 (by omega)).trans (U hM 0 _ rfl))) ((U uX 1 (by omega)).trans (((U Q3).cell 1 (by omega)).trans (U hM 1 _ rfl))) ((U HFR 1).trans (((U Q3).frozen 1).trans (by have:=(U hT9 1 (by omega)).2; rwa [Nat.zero_add] at this))) (U qy) hnq hms2 ug hn (U HK) (U HC) (by have:=U HQ; omega) (by have:=U HQ; show qty ≤ xH; omega) qA).mono ?_
  rintro e w9 ⟨uG,rfl,js,ho9,bO⟩
  have oW:=M js
  have ay:=M ho9
  have HT9:=M bO
  clear js ho9 bO
  go_wp2_with fail
  go_end0
  have xr:∀ j,j ≠ 1→j ≠ 5→j ≠ 8→w9.cell? (J mb j) = W0.cell? (J mb j):=fun j Q h5 h8=>((U HT9).cell j (by omega)).trans ((U uX j h5).trans ((U Q3).cell j (by omega)))
  have ua:w9.rangeAt mb 0 [H next,uG,H t.id,H t.side,H t.ticks,H (t.left - qty),H t.life,yk t.tag,v17]:=by
   intro j u hj
   rw [Nat.zero_add]
   match j,hj with
   | 0,hj=>cases hj; exact (xr 0 (by omega) (by omega) (by omega)).trans (U hM 0 _ rfl)
   | 1,hj=>cases hj; exact U oW
   | 2,hj=>cases hj; exact (xr 2 (by omega) (by omega) (by omega)).trans (U hM 2 _ rfl)
   | 3,hj=>cases hj; exact (xr 3 (by omega) (by omega) (by omega)).trans (U hM 3 _ rfl)
   | 4,hj=>cases hj; exact (xr 4 (by omega) (by omega) (by omega)).trans (U hM 4 _ rfl)
   | 5,hj=>cases hj; exact ((U HT9).cell 5 (by omega)).trans (U kG)
   | 6,hj=>cases hj; exact (xr 6 (by omega) (by omega) (by omega)).trans (U hM 6 _ rfl)
   | 7,hj=>cases hj; exact (xr 7 (by omega) (by omega) (by omega)).trans (U hM 7 _ rfl)
   | 8,hj=>cases hj; exact ((U HT9).cell 8 (by omega)).trans ((U uX 8 (by omega)).trans (U Q1))
   | j + 9,hj=>simp at hj
  refine ⟨uG,v17,rfl,⟨ua,fun j hj=>⟨?_,?_⟩,U ay,row_took (U oX) (U HT9) hn17 (dY (U oX) (U qy) (by decide)),by obtain ⟨xz,hc⟩:=U HBX2; exact (U HT9).kind _ _ _ hc,yO ug (U HT9).size⟩,eS (U xK) (kept_took (U HT9) ug (fun g hg=>((U qy).lt g hg).1))⟩
  ·match j,hj with
   | 0,_=>exact Option.isSome_iff_exists.2 ⟨_,ua 0 _ rfl⟩
   | 1,_=>exact Option.isSome_iff_exists.2 ⟨_,ua 1 _ rfl⟩
   | 2,_=>exact Option.isSome_iff_exists.2 ⟨_,ua 2 _ rfl⟩
   | 3,_=>exact Option.isSome_iff_exists.2 ⟨_,ua 3 _ rfl⟩
   | 4,_=>exact Option.isSome_iff_exists.2 ⟨_,ua 4 _ rfl⟩
   | 5,_=>exact Option.isSome_iff_exists.2 ⟨_,ua 5 _ rfl⟩
   | 6,_=>exact Option.isSome_iff_exists.2 ⟨_,ua 6 _ rfl⟩
   | 7,_=>exact Option.isSome_iff_exists.2 ⟨_,ua 7 _ rfl⟩
   | 8,_=>exact Option.isSome_iff_exists.2 ⟨_,ua 8 _ rfl⟩
   | j + 9,h=>omega
  ·have:=(U hT9 j hj).2
   rw [Nat.zero_add] at this ⊢
   exact ((U HT9).frozen j).trans ((U HFR j).trans (((U Q3).frozen j).trans this))
 ·rintro x hb V i op ⟨f,rfl,oC,hD⟩ xo hx Y xu K
  have uI:=M oC
  have HD:=M hD
  have kX:i < 17→0 < i→¬ x[17]? = some true:=fun xM vM jK=>by
   have h16:=yf xo 17 rfl jK 16 rfl
   have h4:=yf xo 17 rfl jK 4 rfl
   have vT:=yf xo 16 rfl h16 15 rfl
   have h9:=yf xo 15 rfl vT 9 rfl
   have vK:=yf xo 15 rfl vT 11 rfl
   have vX:=yf xo 15 rfl vT 12 rfl
   have oy:=yf xo 15 rfl vT 14 rfl
   have h8:=yf xo 9 rfl h9 8 rfl
   have h7:=yf xo 8 rfl h8 7 rfl
   have h6:=yf xo 7 rfl h7 6 rfl
   have h5:=yf xo 6 rfl h6 5 rfl
   have vi:=yf xo 11 rfl vK 10 rfl
   have jd:=yf xo 14 rfl oy 13 rfl
   have X:=yf xo 4 rfl h4 3 rfl
   have D:=yf xo 3 rfl X 2 rfl
   have Q:=yf xo 2 rfl D 1 rfl
   have vr:∀ j,0 < j→j < 17→x[j]? = some true:=fun j jM hj=>by
    rcases (by omega:j = 1 ∨ j = 2 ∨ j = 3 ∨ j = 4 ∨ j = 5 ∨ j = 6 ∨ j = 7 ∨ j = 8 ∨ j = 9 ∨ j = 10 ∨ j = 11 ∨ j = 12 ∨ j = 13 ∨ j = 14 ∨ j = 15 ∨ j = 16) with rfl | rfl | rfl | rfl | rfl | rfl | rfl | rfl | rfl | rfl | rfl | rfl | rfl | rfl | rfl | rfl <;> assumption
   rw [vr i vM xM] at xu; cases xu
  have n20':i < 20→¬ x[20]? = some true:=fun xM h20=>by
   have h19:=yf xo 20 rfl h20 19 rfl
   have jK:=yf xo 20 rfl h20 17 rfl
   have pH:=yf xo 19 rfl h19 18 rfl
   have h16:=yf xo 17 rfl jK 16 rfl
   have h4:=yf xo 17 rfl jK 4 rfl
   have vT:=yf xo 16 rfl h16 15 rfl
   have h9:=yf xo 15 rfl vT 9 rfl
   have vK:=yf xo 15 rfl vT 11 rfl
   have vX:=yf xo 15 rfl vT 12 rfl
   have oy:=yf xo 15 rfl vT 14 rfl
   have h8:=yf xo 9 rfl h9 8 rfl
   have h7:=yf xo 8 rfl h8 7 rfl
   have h6:=yf xo 7 rfl h7 6 rfl
   have h5:=yf xo 6 rfl h6 5 rfl
   have vi:=yf xo 11 rfl vK 10 rfl
   have jd:=yf xo 14 rfl oy 13 rfl
   have X:=yf xo 4 rfl h4 3 rfl
   have D:=yf xo 3 rfl X 2 rfl
   have Q:=yf xo 2 rfl D 1 rfl
   have h0:=yf xo 18 rfl pH 0 rfl
   have vr:∀ j,j < 20→x[j]? = some true:=fun j hj=>by
    rcases (by omega:j = 0 ∨ j = 1 ∨ j = 2 ∨ j = 3 ∨ j = 4 ∨ j = 5 ∨ j = 6 ∨ j = 7 ∨ j = 8 ∨ j = 9 ∨ j = 10 ∨ j = 11 ∨ j = 12 ∨ j = 13 ∨ j = 14 ∨ j = 15 ∨ j = 16 ∨ j = 17 ∨ j = 18 ∨ j = 19) with rfl | rfl | rfl | rfl | rfl | rfl | rfl | rfl | rfl | rfl | rfl | rfl | rfl | rfl | rfl | rfl | rfl | rfl | rfl | rfl <;> assumption
   rw [vr i xM] at xu; cases xu
  have xj:∀ (b o:Nat) (u:Value),W0.cell? (J b o) = some u→¬ x[17]? = some true→V.cell? (J b o) = some u:=fun b o u hu hn17=>((oC hn17).cell (p:=(J b o)) (yL W0 _ hu)).trans hu
  clear oC xo
  match i,Y with
  | 0,Y | 1,Y | 5,Y =>
   obtain rfl:=ya Y
   clear K hD
   rw [if_pos (by rfl)];unfold Oper.wp;go_simp
   exact ⟨upd f _ (I mb 0),by simp [upd],zO (U HD) (by decide) (by decide) (fun _ _ h=>h) (U uI) rfl⟩
  | 2,Y =>
   obtain rfl:=ya Y
   have g:f 1 = I mb 0:=hD 1 (ye K 1 rfl)
   clear K hD
   rw [if_pos (by rfl)];unfold Oper.wp;go_simp
   exact ⟨upd f 2 (I mb 0),by simp [upd,g],zO (U HD) (by decide) (by decide) (fun _ _ h=>h) (U uI) rfl⟩
  | 3,Y =>
   obtain rfl:=ya Y
   have g:f 2 = I mb 0:=hD 2 (ye K 2 rfl)
   clear K hD
   rw [if_pos (by rfl)];unfold Oper.wp;go_simp
   exact ⟨upd f 3 (I mb 8),by simp [upd,g],zO (U HD) (by decide) (by decide) (fun _ _ h=>h) (U uI) rfl⟩
  | 4,Y =>
   obtain rfl:=ya Y
   have g:f 3 = I mb 8:=hD 3 (ye K 3 rfl)
   have jw:=kX (by omega) (by omega)
   have y8:=xj mb 8 _ (U HM8) jw
   clear K hD
   rw [if_pos (by rfl)];unfold Oper.wp;go_simp
   exact ⟨upd f 4 (vt),by simp [upd,g],zO (U HD) (by decide) (by decide) (fun _ _ h=>h) (U uI) rfl⟩
  | 6,Y =>
   obtain rfl:=ya Y
   have g:f 5 = I mb 0:=hD 5 (ye K 5 rfl)
   clear K hD
   rw [if_pos (by rfl)];unfold Oper.wp;go_simp
   exact ⟨upd f 6 (I mb 0),by simp [upd,g],zO (U HD) (by decide) (by decide) (fun _ _ h=>h) (U uI) rfl⟩
  | 7,Y =>
   obtain rfl:=ya Y
   have g:f 6 = I mb 0:=hD 6 (ye K 6 rfl)
   clear K hD
   rw [if_pos (by rfl)];unfold Oper.wp;go_simp
   exact ⟨upd f 7 (I mb 2),by simp [upd,g],zO (U HD) (by decide) (by decide) (fun _ _ h=>h) (U uI) rfl⟩
  | 8,Y =>
   obtain rfl:=ya Y
   have g:f 7 = I mb 2:=hD 7 (ye K 7 rfl)
   clear K hD
   rw [if_pos (by rfl)];unfold Oper.wp;go_simp
   exact ⟨upd f 8 (I mb 2),by simp [upd,g],zO (U HD) (by decide) (by decide) (fun _ _ h=>h) (U uI) rfl⟩
  | 9,Y =>
   obtain rfl:=ya Y
   have g:f 8 = I mb 2:=hD 8 (ye K 8 rfl)
   have jw:=kX (by omega) (by omega)
   have y2:=xj mb 2 _ (U jG) jw
   clear K hD
   rw [if_pos (by rfl)];unfold Oper.wp;go_simp
   exact ⟨upd f 9 (H t.id),by simp [upd,g],zO (U HD) (by decide) (by decide) (fun _ _ h=>h) (U uI) rfl⟩
  | 10,Y =>
   obtain rfl:=ya Y
   clear K hD
   rw [if_pos (by rfl)];unfold Oper.wp;go_simp
   exact ⟨upd f 10 (yp w 0),by simp [upd],zO (U HD) (by decide) (by decide) (fun _ _ h=>h) (U uI) rfl⟩
  | 11,Y =>
   obtain rfl:=ya Y
   have g:f 10 = yp w 0:=hD 10 (ye K 10 rfl)
   have jw:=kX (by omega) (by omega)
   have z0:=xj w.heap.size 0 _ (U HF0) jw
   clear K hD
   rw [if_pos (by rfl)];unfold Oper.wp;go_simp
   exact ⟨upd f 11 (H uH),by simp [upd,g],zO (U HD) (by decide) (by decide) (fun _ _ h=>h) (U uI) rfl⟩
  | 12,Y =>
   obtain rfl:=ya Y
   clear K hD
   rw [if_pos (by rfl)];unfold Oper.wp;go_simp
   exact ⟨upd f 12 (H qty),by simp [upd],zO (U HD) (by decide) (by decide) (fun _ _ h=>h) (U uI) rfl⟩
  | 13,Y =>
   obtain rfl:=ya Y
   clear K hD
   rw [if_pos (by rfl)];unfold Oper.wp;go_simp
   exact ⟨upd f 13 (yp w 2),by simp [upd],zO (U HD) (by decide) (by decide) (fun _ _ h=>h) (U uI) rfl⟩
  | 14,Y =>
   obtain rfl:=ya Y
   have g:f 13 = yp w 2:=hD 13 (ye K 13 rfl)
   have jw:=kX (by omega) (by omega)
   have z2:=xj w.heap.size 2 _ (U HF2) jw
   clear K hD
   rw [if_pos (by rfl)];unfold Oper.wp;go_simp
   exact ⟨upd f 14 (H xv),by simp [upd,g],zO (U HD) (by decide) (by decide) (fun _ _ h=>h) (U uI) rfl⟩
  | 15,Y =>
   obtain rfl:=ya Y
   have g9:f 9 = H t.id:=hD 9 (ye K 9 rfl)
   have ql:f 11 = H uH:=hD 11 (ye K 11 rfl)
   have ud:f 12 = H qty:=hD 12 (ye K 12 rfl)
   have kR:f 14 = H xv:=hD 14 (ye K 14 rfl)
   clear K hD
   rw [if_pos (by rfl)];unfold Oper.wp;go_simp
   exact ⟨upd f 15 (evV (trE t.id uH qty xv)),by simp [upd,g9,ql,ud,kR,evV,trE,zCm],zO (U HD) (by decide) (by decide) (fun _ _ h=>h) (U uI) rfl⟩
  | 16,Y =>
   obtain rfl:=ya Y
   have g:f 15 = evV (trE t.id uH qty xv):=hD 15 (ye K 15 rfl)
   have jw:=kX (by omega) (by omega)
   have vA:=U uI jw
   clear K hD
   unfold evV trE at g
   rw [if_pos (by rfl)];unfold Oper.wp;go_simp
   refine ⟨upd f 16 (.slice (some (yq V 0)) 1 1),by simp [upd,g],zO (U HD) (by decide) (by decide) (dt_alloc jw) (fun _=>vA.alloc vA.size _) ⟨V.heap.size,rfl,fun _=>?_⟩⟩
   exact cellsT V (trE t.id uH qty xv) 37
  | 17,Y =>
   obtain rfl:=ya Y
   have g4:f 4 = vt:=hD 4 (ye K 4 rfl)
   obtain ⟨s,g16,hcs⟩:=hD 16 (ye K 16 rfl)
   have jw:¬ x[17]? = some true:=by rw [xu]; simp
   have n20:=n20' (by omega)
   have vA:=U uI jw
   have ur:ERow V B vt ts:=zN (U HROW) vA
   rw [if_pos (by rfl)]
   refine wp_append_own V (.tmp 17) (.tmp 29) 28 rfl B 37 i0 _ 14 120 Tryz.underlying28 uJ uD uz uM rfl (by decide) vt ts.length (ts.flatMap Ev.vs) g4 ur (J s 0) 1 1 (trE t.id uH qty xv).vs g16 rfl (hcs jw) (one_ev _) (by unfold maxLen; omega) (by omega) (by have:=vA.size; omega) ?_
   intro v' w' xS uZ _
   obtain ⟨ga,gc,rfl⟩:=row_sliceT xS (by omega)
   refine ⟨upd f 17 (.slice (some (J ga 0)) (ts.length + 1) gc),rfl,rt_one (by decide) (U HD) xu n20 (fun j v hj h=>dt_one j v hj h) ⟨some (J ga 0),gc,rfl,trivial,fun _=>⟨?_,?_⟩,fun h=>h.elim⟩⟩
   ·show World.ownsRow _ _ _ _ _ (ts ++ [trE t.id uH qty xv]).length _
    rw [yQ,List.flatMap_append]; simpa using xS
   ·exact (ep vA hU).trans uZ
  | 18,Y =>
   obtain rfl:=ya Y
   have g:f 0 = I mb 0:=hD 0 (ye K 0 rfl)
   clear K hD
   rw [if_pos (by rfl)];unfold Oper.wp;go_simp
   exact ⟨upd f 18 (I mb 0),by simp [upd,g],zO (U HD) (by decide) (by decide) (fun _ _ h=>h) (U uI) rfl⟩
  | 19,Y =>
   obtain rfl:=ya Y
   have g:f 18 = I mb 0:=hD 18 (ye K 18 rfl)
   clear K hD
   rw [if_pos (by rfl)];unfold Oper.wp;go_simp
   exact ⟨upd f 19 (I mb 8),by simp [upd,g],zO (U HD) (by decide) (by decide) (fun _ _ h=>h) (U uI) rfl⟩
  | 20,Y =>
   obtain rfl:=ya Y
   have g19:f 19 = I mb 8:=hD 19 (ye K 19 rfl)
   have k17:x[17]? = some true:=K ⟨17,.data⟩ (by simp) rfl
   have n20:¬ x[20]? = some true:=by rw [xu]; simp
   obtain ⟨ga,gc,g17,-,hfa,-⟩:=hD 17 k17
   obtain ⟨oQ,uZ⟩:=hfa n20
   have oH:some mb ≠ vt.ownBlock:=hnt
   have y8:=uZ.cell (U HM8) oH
   have f8:V.frozen? (J mb 8) = false:=(World.frozen?_of_block (a:=(J mb 8)) (uZ.block mb (by omega) oH)).trans (U HF8)
   have bu:=M (g17 ▸ oQ)
   have HBXV:Hid (∃ xz,V.heap[mb]? = some (.cells xz 259 (0,0))):=by obtain ⟨xz,hc⟩:=U qC; exact ⟨xz,(uZ.block mb (by omega) oH).trans hc⟩
   have HGR:=M uZ
   clear K hD oQ uZ hfa
   rw [if_pos (by rfl)];unfold Oper.wp;go_simp
   refine ⟨upd f 20 Z,by simp [upd,g19,g17],rt_two (by decide) (U HD) k17 xu (fun j hj hxj h=>dt_two j hj h (fun hj17=>?_)) trivial⟩
   subst hj17
   obtain ⟨-,-,-,-,-,-⟩:=h
   refine ⟨ga,gc,g17,trivial,fun h=>absurd trivial h,fun _=>?_⟩
   rw [g17]
   refine ⟨yN _ _ _ y8,cw (U bu) (df (U bu) (U HBXV) (by decide)) 8 _,?_⟩
   exact eT (eE (U HGR) (by omega) oH) (took_set (o:=7) _ _)
  | i + 21,Y=>simp at Y
end Go.Proofs.YthhkapcbocgcoaaGreatDoor
