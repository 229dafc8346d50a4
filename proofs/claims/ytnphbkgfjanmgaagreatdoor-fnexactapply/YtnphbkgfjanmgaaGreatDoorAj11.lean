/-
  A quantity taken from an order of a book, by the program: proved by walking the function.
-/
import Derived.Test.YtnphbkgfjanmgaaGreatDoorAj10
set_option linter.unusedVariables false
set_option maxHeartbeats 6400000
set_option maxRecDepth 100000
namespace Go.Proofs.YtnphbkgfjanmgaaGreatDoor
open Go.RowKit
def bu (l:List Od) (k:Nat) (c:Od) (qty:Int):List Od:=if c.left = qty then l.take k ++ l.drop (k + 1) else l.set k { c with left:=c.left - qty }
structure TookAt (p o:Nat) (G:Option Nat) (w w':World):Prop where
 os:w'.os = w.os
 tape:w'.tape = w.tape
 output:w'.output = w.output
 size:w.heap.size ≤ w'.heap.size
 block:∀ k,k < w.heap.size→k ≠ p→some k ≠ G→w'.heap[k]? = w.heap[k]?
 cell:∀ j,j ≠ o + 1→w'.cell? ⟨p,j,none⟩ = w.cell? ⟨p,j,none⟩
 frozen:∀ j,w'.frozen? ⟨p,j,none⟩ = w.frozen? ⟨p,j,none⟩
 kind:∀ cur t x,w.heap[p]? = some (.cells cur t x)→∃ cur',w'.heap[p]? = some (.cells cur' t x)
theorem cI (w:World) (p o:Nat) (u:Value) {xF:Array Value} {t:TypeId} {x:Nat × Nat} (h:w.heap[p]? = some (.cells xF t x)):∃ cur',(w.setCell (D p o) u).heap[p]? = some (.cells cur' t x):=by
 simp [World.setCell,Array.getElem?_modify,h]
theorem bN {W:World} {B e sz n:Nat} {v:Value} {xs:List Value} (h:W.ownsRow B e sz v n xs) {b:Nat} (Q:some b ≠ v.ownBlock) (o:Nat) (u:Value):(W.setCell (D b o) u).ownsRow B e sz v n xs :=
 h.kept (row:=some b) ⟨rfl,rfl,rfl,by simp [World.setCell],fun k _ hk=>yT _ _ _ _ (fun e=>hk (by rw [e]))⟩ (.inr (Ne.symm Q))
theorem dM {p o:Nat} {G:Option Nat} {w w':World} (h:w.grownBy w' G) (hp:p < w.heap.size) (xA:some p ≠ G):TookAt p o G w w' :=
 ⟨h.os,h.tape,h.output,h.size,fun k hk _ hG=>h.block k hk hG,fun j _=>yR (a:=(D p j)) (h.block p hp xA),fun j=>World.frozen?_of_block (a:=(D p j)) (h.block p hp xA),fun xF t x hh=>⟨xF,(h.block p hp xA).trans hh⟩⟩
theorem eb {p o:Nat} {G:Option Nat} {w w1 w2:World} (N:TookAt p o G w w1) (Y:TookAt p o G w1 w2):TookAt p o G w w2 :=
 ⟨Y.os.trans N.os,Y.tape.trans N.tape,Y.output.trans N.output,yO N.size Y.size,fun k hk hp hG=>(Y.block k (yK hk N.size) hp hG).trans (N.block k hk hp hG),fun j X=>(Y.cell j X).trans (N.cell j X),fun j=>(Y.frozen j).trans (N.frozen j),fun xF t x hh=>by obtain ⟨c1,h3⟩:=N.kind xF t x hh; exact Y.kind c1 t x h3⟩
theorem took_set {p o:Nat} {G:Option Nat} (w:World) (u:Value):TookAt p o G w (w.setCell (D p (o + 1)) u) :=
 ⟨rfl,rfl,rfl,by simp [World.setCell],fun k _ hp _=>yT _ _ _ _ hp,fun j X=>yM _ _ _ _ (cW (fun e=>X e.symm)),fun j=>World.frozen?_setCell _ _ _ _,fun xF t x hh=>cI w p (o + 1) u hh⟩
theorem zO {W W':World} {B:Nat} {v:Value} {l:List Od} (h:ORow W B v l) (Q:yp W W'):ORow W' B v l :=
 World.ownsRow.kept h (row:=none) (cR Q yb) (by cases v.ownBlock <;> simp)
theorem oRow_left {W:World} {B g n cap k:Nat} {l:List Od} {c:Od} (h:ORow W B (.slice (some (D g 0)) n cap) l) (hn:l.length = n) (hk:l[k]? = some c) (x:Int) :
  ORow (W.setCell (D g (k * 6 + 3)) (I x)) B (.slice (some (D g 0)) n cap) (l.set k { c with left:=x })∧W.grownBy (W.setCell (D g (k * 6 + 3)) (I x)) (some g):=by
 subst hn
 have s:=World.ownsRow.stored h (k * 6 + 3) (I x)
 refine ⟨?_,s.2⟩
 have e:=flat_set Od.len l k 3 c { c with left:=x } (I x) hk (by omega) rfl
 show World.ownsRow _ _ _ _ _ (l.set k _).length _
 rw [List.length_set,← e]; exact s.1
theorem fo (p o B:Nat) (next id qty:Int) (vq:Value) (l:List Od) (k:Nat) (c:Od) (w:World) (c0:w.cell? (D p o) = some (I next)) (c1:w.cell? (D p (o + 1)) = some vq) (f1:w.frozen? (D p (o + 1)) = false)
  (Z:ORow w B vq l) (hp:some p ≠ vq.ownBlock) (hpw:p < w.heap.size) (hB:B ≤ w.heap.size) (hn:l.length ≤ 1000) (hk:plc l id = k) (hc:l[k]? = some c) (aG:0 ≤ qty) (pe:qty ≤ c.left) (F:c.left ≤ 1000000) :
  Calls Tryz.prog 138 #[J p o,I id,I qty] w fun e w'=>∃ uH,e = yn (.tuple #[])∧w'.cell? (D p (o + 1)) = some uH∧ORow w' B uH (bu l k c qty)∧TookAt p o vq.ownBlock w w':=by
 have xA:l ≠ []:=by rintro rfl; simp at hc
 have pt:=(yH.1 hc).1
 have HO:=H Z
 obtain ⟨g,cap,rfl,ut,hBg,hgw⟩:=du Z xA
 have HK:=H hk
 have HC:=H hc
 clear Z hk hc xA
 go_enter Tryz.func138,Tryz.ntmps138
 go_wp2_with fail
 refine (eO next _ l id w (zI (U HO) (by omega))).mono ?_
 rintro e w1 ⟨rfl,ul⟩
 rw [U HK]
 have uf:=H ul
 have qX:=H (zO (U HO) ul)
 have d1:w1.cell? (D p (o + 1)) = some (.slice (some (D g 0)) l.length cap):=(ul.cell (p:=(D p (o + 1))) hpw).trans c1
 have e1:w1.frozen? (D p (o + 1)) = false:=(ul.frozen (p:=(D p (o + 1))) hpw).trans f1
 have hsz1:=ul.size
 obtain ⟨a',cp',ee,_,aw⟩:=zI (U qX) (by omega)
 obtain ⟨b',qA,e2,_,aw⟩:=aw (by intro h; rw [h] at pt; simp at pt)
 rw [e2] at ee
 simp only [Value.slice.injEq,Option.some.injEq,Addr.mk.injEq,and_true,true_and] at ee
 obtain ⟨⟨rfl,rfl⟩,-⟩:=ee
 have hcc:=aw k c (U HC)
 rw [Nat.zero_add] at hcc
 obtain ⟨-,-,-,y3,-⟩:=zB hcc
 have fz:=World.ownsRow.frozenAt (U qX) (k * 6 + 3)
 have pd:(k:Int) < l.length:=by omega
 have jQ:(0:Int) ≤ k:=by omega
 have hwr:IntKind.i64.wrap (c.left - qty) = c.left - qty:=by rw [IntKind.wrap_i64]; omega
 have hpg:p ≠ g:=by simpa [Value.ownBlock] using hp
 have HS:=H (oRow_left (U qX) rfl (U HC) (c.left - qty))
 have d2:(w1.setCell (D g (k * 6 + 3)) (I (c.left - qty))).cell? (D p (o + 1)) = some (.slice (some (D g 0)) l.length cap):=(yM _ _ _ _ (fun e=>hpg (by have:=congrArg Addr.block e; simpa using this.symm))).trans d1
 have d3:(w1.setCell (D g (k * 6 + 3)) (I (c.left - qty))).cell? (D g (k * 6 + 3)) = some (I (c.left - qty)):=yN _ _ _ y3
 have d4:(w1.setCell (D g (k * 6 + 3)) (I (c.left - qty))).frozen? (D p (o + 1)) = false:=(World.frozen?_setCell _ _ _ _).trans e1
 clear ul hcc aw c0 c1 f1
 by_cases hz:c.left = qty
 ·have uK:c.left - qty = 0:=by omega
  have HH:Hid (bu l k c qty = l.take k ++ l.drop (k + 1)):=if_pos hz
  obtain ⟨m,hm⟩:∃ m,l.length = k + 1 + m:=⟨l.length - (k + 1),by omega⟩
  have kW:(l.set k { c with left:=c.left - qty }).length = k + 1 + m:=by rw [List.length_set,hm]
  have hdel:(l.set k { c with left:=c.left - qty }).take k ++ (l.set k { c with left:=c.left - qty }).drop (k + 1) = l.take k ++ l.drop (k + 1):=by
   rw [List.take_set_of_le yb,List.drop_set_of_lt (by omega)]
  have HDEL:=H hdel
  have HM:=H hm
  have xC:(c.left - qty == 0) = true:=by rw [beq_iff_eq]; exact uK
  obtain ⟨-,Y | ⟨g',uE,xF,Y,h3,h4,h5,h6,h7,h8⟩⟩:=(U HS).1
  ·simp at Y
  simp only [Value.slice.injEq,Option.some.injEq,Addr.mk.injEq,and_true] at Y
  obtain ⟨rfl,h9,rfl⟩:=Y
  have HDC:Hid (Calls Tryz.prog 180 #[.slice (some (D g 0)) (k + 1 + m) cap,I k,I ((k:Int) + 1)] (w1.setCell (D g (k * 6 + 3)) (I (c.left - qty))) _):=delete_any g k m cap B xF (l.set k { c with left:=c.left - qty }) _ kW (by rw [List.length_set]; exact hn) h4 h5 h6 h7 h8 hBg
  have uh:=H (U HS).2
  have qE:p < (w1.setCell (D g (k * 6 + 3)) (I (c.left - qty))).heap.size:=by simp [World.setCell]; omega
  clear hdel hz kW h3 h4 h5 h6 h7 h8 h9 ut uK
  rw [hm] at d1 d2 pd ⊢
  clear hm
  go_wp2_with fail
  refine (U HDC).mono ?_
  rw [U HDEL]
  rintro e w3 ⟨rfl,bh,uG⟩
  have s1:=uG.cell d2 (by simpa using hpg)
  have s2:w3.frozen? (D p (o + 1)) = false:=(World.frozen?_of_block (a:=(D p (o + 1))) (uG.block p qE (by simpa using hpg))).trans d4
  have pX:=H bh
  have vn:=H uG
  clear bh uG
  go_wp2_with fail
  go_end0
  refine ⟨_,rfl,yN _ _ _ s1,?_,?_⟩
  ·rw [U HH]
   exact bN (U pX) (by simpa [Value.ownBlock] using hpg) (o + 1) _
  ·exact eb (eb (eb (dM (cR (U uf) yb) hpw (by simpa [Value.ownBlock] using hpg)) (dM (U uh) (by omega) (by simpa [Value.ownBlock] using hpg))) (dM (U vn) qE (by simpa [Value.ownBlock] using hpg))) (took_set _ _)
 ·have uK:(c.left - qty == 0) = false:=by rw [xe]; omega
  have HH:Hid (bu l k c qty = l.set k { c with left:=c.left - qty }):=if_neg hz
  go_wp2_with fail
  go_end0
  refine ⟨_,rfl,d2,by rw [U HH]; exact (U HS).1,?_⟩
  exact eb (dM (cR (U uf) yb) hpw (by simpa [Value.ownBlock] using hpg)) (dM (U HS).2 (by omega) (by simpa [Value.ownBlock] using hpg))
section
variable {B0:Nat→World→Prop} {W W':World} {k:Nat} {ya:Prop→World→Nat→Value→Prop} {x:List Bool} {f:Nat→Value}
end
def RT (B0:World→Prop) (xo:(Nat→Value)→Act) (k h:Nat) (ya:Prop→Prop→World→Nat→Value→Prop) (x:List Bool) (gs:Act) (W:World):Prop :=
 ∃ f,gs = xo f∧(¬ x[k]? = some true→B0 W)∧∀ j,x[j]? = some true→ya (x[k]? = some true) (x[h]? = some true) W j (f j)
section
variable {B0:World→Prop} {W W':World} {k h:Nat} {ya:Prop→Prop→World→Nat→Value→Prop} {x:List Bool} {f:Nat→Value}
theorem zV (hh:∀ j,x[j]? = some true→ya (x[k]? = some true) (x[h]? = some true) W j (f j)) {i:Nat} (hik:i ≠ k) (hih:i ≠ h) (hm:∀ j v,ya (x[k]? = some true) (x[h]? = some true) W j v→ya (x[k]? = some true) (x[h]? = some true) W' j v) (hB:¬ x[k]? = some true→B0 W') {v:Value} (hv:ya (x[k]? = some true) (x[h]? = some true) W' i v) :
  (¬ (x.set i true)[k]? = some true→B0 W')∧∀ j,(x.set i true)[j]? = some true→ya ((x.set i true)[k]? = some true) ((x.set i true)[h]? = some true) W' j (upd f i v j):=by
 rw [yX hik,yX hih]
 refine ⟨hB,fun j X=>?_⟩
 by_cases hji:j = i
 ·subst hji; rw [zt]; exact hv
 ·rw [zk _ _ hji]
  rw [yX (fun e=>hji e.symm)] at X
  exact hm _ _ (hh j X)
theorem rt_one (hkh:k ≠ h) (hh:∀ j,x[j]? = some true→ya (x[k]? = some true) (x[h]? = some true) W j (f j)) (hk:x[k]? = some false) (hn:¬ x[h]? = some true) (hm:∀ j v,j ≠ k→ya False False W j v→ya True False W' j v) {v:Value} (hv:ya True False W' k v) :
  (¬ (x.set k true)[k]? = some true→B0 W')∧∀ j,(x.set k true)[j]? = some true→ya ((x.set k true)[k]? = some true) ((x.set k true)[h]? = some true) W' j (upd f k v j):=by
 have e:((x.set k true)[k]? = some true) = True:=by
  rw [List.getElem?_set_self (yH.1 hk).1]; simp
 have e2:((x.set k true)[h]? = some true) = False:=by
  rw [yX hkh]; exact eq_false hn
 have e3:(x[h]? = some true) = False:=eq_false hn
 have e4:(x[k]? = some true) = False:=by rw [hk]; simp
 rw [e,e2]
 refine ⟨fun h=>absurd trivial h,fun j X=>?_⟩
 by_cases hji:j = k
 ·subst hji; rw [zt]; exact hv
 ·rw [zk _ _ hji]
  rw [yX (fun e=>hji e.symm)] at X
  have:=hh j X
  rw [e3,e4] at this
  exact hm j _ hji this
theorem rt_two (hkh:h ≠ k) (hh:∀ j,x[j]? = some true→ya (x[k]? = some true) (x[h]? = some true) W j (f j)) (hk:x[k]? = some true) (hn:x[h]? = some false) (hm:∀ j,j ≠ h→x[j]? = some true→ya True False W j (f j)→ya True True W' j (f j)) {v:Value} (hv:ya True True W' h v) :
  (¬ (x.set h true)[k]? = some true→B0 W')∧∀ j,(x.set h true)[j]? = some true→ya ((x.set h true)[k]? = some true) ((x.set h true)[h]? = some true) W' j (upd f h v j):=by
 have e:((x.set h true)[h]? = some true) = True:=by
  rw [List.getElem?_set_self (yH.1 hn).1]; simp
 have e2:((x.set h true)[k]? = some true) = True:=by
  rw [yX hkh,hk]; simp
 have e3:(x[h]? = some true) = False:=by rw [hn]; simp
 have e4:(x[k]? = some true) = True:=by rw [hk]; simp
 rw [e,e2]
 refine ⟨fun h=>absurd trivial h,fun j X=>?_⟩
 by_cases hji:j = h
 ·subst hji; rw [zt]; exact hv
 ·rw [zk _ _ hji]
  rw [yX (fun e=>hji e.symm)] at X
  have:=hh j X
  rw [e3,e4] at this
  exact hm j hji X this
end
def trE (uB aj qty am:Int):Ev:=⟨3,zCm,uB,aj,qty,am,0⟩
abbrev ERow (W:World) (B:Nat) (v:Value) (l:List Ev):Prop:=W.ownsRow B 52 14 v l.length (l.flatMap Ev.vs)
theorem infoEv:(Tryz.prog.info? 52).map (fun i=>(i.zero,i.size,i.bytes)) = some (some (.agg (yw 0 0 0 0 0 0 0 0 ⟨#[]⟩ 0 0 0 0 0).toArray),14,120):=by kernel_rfl
theorem one_ev (e:Ev):∀ u ∈ e.vs,u.oneCell' = true:=by
 intro u hu
 simp [Ev.vs] at hu
 rcases hu with rfl | rfl | rfl | rfl | rfl | rfl | rfl | rfl | rfl | rfl | rfl | rfl | rfl | rfl <;> rfl
theorem dJ {W W':World} {B:Nat} {v:Value} {l:List Ev} (h:ERow W B v l) (Q:yp W W'):ERow W' B v l :=
 World.ownsRow.kept h (row:=none) (cR Q yb) (by cases v.ownBlock <;> simp)
theorem row_sliceT {W:World} {B e sz n:Nat} {v:Value} {xs:List Value} (h:W.ownsRow B e sz v n xs) (hn:0 < n):∃ g c,v = .slice (some (D g 0)) n c:=by
 rcases h.2 with ⟨_,h0⟩ | ⟨g,cap,_,N,_⟩
 ·omega
 ·exact ⟨g,cap,N⟩
theorem cellsT (W:World) (e:Ev) (t:TypeId):∀ j u,e.vs[j]? = some u→(W.alloc (Obj.cells e.vs.toArray t)).cell? (((yr W 0):Addr).add j) = some u:=fun j u h=>cellsQ W e.vs t j u h
def DT (mb fb B:Nat) (W0:World) (vt:Value) (ts:List Ev) (uB aj qty am:Int) (p q:Prop) (cl:World):Nat→Value→Prop
 | 0,v=>v = J mb 0
 | 1,v=>v = J mb 0
 | 2,v=>v = J mb 0
 | 3,v=>v = J mb 8
 | 4,v=>v = vt
 | 5,v=>v = J mb 0
 | 6,v=>v = J mb 0
 | 7,v=>v = J mb 2
 | 8,v=>v = J mb 2
 | 9,v=>v = I uB
 | 10,v=>v = J fb 0
 | 11,v=>v = I aj
 | 12,v=>v = I qty
 | 13,v=>v = J fb 2
 | 14,v=>v = I am
 | 15,v=>v = evV (trE uB aj qty am)
 | 16,v=>∃ s,v = .slice (some (D s 0)) 1 1∧(¬ p→∀ j u,(trE uB aj qty am).vs[j]? = some u→cl.cell? (((D s 0):Addr).add j) = some u)
 | 17,v=>∃ a c,v = .slice a (ts.length + 1) c∧p∧(¬ q→ERow cl B v (ts ++ [trE uB aj qty am])∧W0.grownBy cl vt.ownBlock)∧(q→cl.cell? (D mb 8) = some v∧ERow cl B v (ts ++ [trE uB aj qty am])∧TookAt mb 7 vt.ownBlock W0 cl)
 | 18,v=>v = J mb 0
 | 19,v=>v = J mb 8
 | _,_=>True
section
variable {mb fb B:Nat} {W0 cl V':World} {vt:Value} {ts:List Ev} {uB aj qty am:Int} {p q:Prop}
theorem dt_alloc {o:Obj} (hp:¬ p):∀ j v,DT mb fb B W0 vt ts uB aj qty am p q cl j v→DT mb fb B W0 vt ts uB aj qty am p q (cl.alloc o) j v:=by
 intro j v h
 match j with
 | 0 | 1 | 2 | 3 | 4 | 5 | 6 | 7 | 8 | 9 | 10 | 11 | 12 | 13 | 14 | 15 | 18 | 19=>exact h
 | 16 =>
  obtain ⟨s,N,Y⟩:=h
  exact ⟨s,N,fun hp j u hu=>(yW _ _ _ (yL cl _ (Y hp j u hu))).trans (Y hp j u hu)⟩
 | 17=>obtain ⟨_,_,_,Y,_⟩:=h; exact absurd Y hp
 | j + 20=>trivial
theorem dt_one:∀ j v,j ≠ 17→DT mb fb B W0 vt ts uB aj qty am False False cl j v→DT mb fb B W0 vt ts uB aj qty am True False V' j v:=by
 intro j v X h
 match j with
 | 0 | 1 | 2 | 3 | 4 | 5 | 6 | 7 | 8 | 9 | 10 | 11 | 12 | 13 | 14 | 15 | 18 | 19=>exact h
 | 16 =>
  obtain ⟨s,N,Y⟩:=h
  exact ⟨s,N,fun hp=>absurd trivial hp⟩
 | 17=>exact absurd rfl X
 | j + 20=>trivial
theorem dt_two {v:Value}:∀ j,j ≠ 20→DT mb fb B W0 vt ts uB aj qty am True False cl j v→(j = 17→DT mb fb B W0 vt ts uB aj qty am True True V' 17 v)→DT mb fb B W0 vt ts uB aj qty am True True V' j v:=by
 intro j X h ji
 match j with
 | 0 | 1 | 2 | 3 | 4 | 5 | 6 | 7 | 8 | 9 | 10 | 11 | 12 | 13 | 14 | 15 | 18 | 19=>exact h
 | 16 =>
  obtain ⟨s,N,Y⟩:=h
  exact ⟨s,N,fun hp=>absurd trivial hp⟩
 | 17=>exact ji rfl
 | j + 20=>trivial
end
structure MatS (mb B:Nat) (W:World) (next:Int) (vq:Value) (l:List Od) (t:Od) (vt:Value) (ts:List Ev):Prop where
 cells:W.rangeAt mb 0 [.int .i64 next,vq,.int .i64 t.id,.int .i64 t.side,.int .i64 t.ticks,.int .i64 t.left,.int .i64 t.life,.string t.tag,vt]
 there:W.there mb 0 9
 orow:ORow W B vq l
 erow:ERow W B vt ts
 box:∃ cur,W.heap[mb]? = some (.cells cur 254 (0,0))
 le:B ≤ W.heap.size
structure KeptBut (mb B:Nat) (w w':World):Prop where
 os:w'.os = w.os
 tape:w'.tape = w.tape
 output:w'.output = w.output
 size:w.heap.size ≤ w'.heap.size
 block:∀ k,k < B→k ≠ mb→w'.heap[k]? = w.heap[k]?
theorem dZ {mb B:Nat} {w w1 w2:World} (N:KeptBut mb B w w1) (Y:KeptBut mb B w1 w2):KeptBut mb B w w2 :=
 ⟨Y.os.trans N.os,Y.tape.trans N.tape,Y.output.trans N.output,yO N.size Y.size,fun k hk hm=>(Y.block k hk hm).trans (N.block k hk hm)⟩
theorem fK {mb B C:Nat} {w w1:World} (h:Below C w w1) (hC:B ≤ C):KeptBut mb B w w1 :=
 ⟨h.os,h.tape,h.output,h.size,fun k hk _=>h.block k (by omega)⟩
theorem kept_took {mb B o:Nat} {G:Option Nat} {w w1:World} (h:TookAt mb o G w w1) (hB:B ≤ w.heap.size) (hG:∀ g,G = some g→B ≤ g):KeptBut mb B w w1 :=
 ⟨h.os,h.tape,h.output,h.size,fun k hk hm=>h.block k (by omega) hm (fun e=>by have:=hG k e.symm; omega)⟩
theorem kept_set {mb B:Nat} (w:World) (o:Nat) (u:Value):KeptBut mb B w (w.setCell (D mb o) u) :=
 ⟨rfl,rfl,rfl,by simp [World.setCell],fun k _ hm=>yT _ _ _ _ hm⟩
theorem kept_drew {mb B:Nat} {w w1:World} (h:KeptBut mb B w w1):KeptBut mb B w w1.drew:=⟨h.os,h.tape,h.output,h.size,h.block⟩
theorem row_took {p o B e sz n:Nat} {G:Option Nat} {v:Value} {xs:List Value} {w w':World} (h:w.ownsRow B e sz v n xs) (ht:TookAt p o G w w') (hp:some p ≠ v.ownBlock) (xA:v.ownBlock = none ∨ v.ownBlock ≠ G):w'.ownsRow B e sz v n xs:=by
 refine ⟨h.1,?_⟩
 rcases h.2 with hn | ⟨g,cap,xF,rfl,Q,hgg,rest⟩
 ·exact .inl hn
 ·refine .inr ⟨g,cap,xF,rfl,Q,?_,rest⟩
  rw [ht.block g (yZ.1 hgg).1 (by simpa [Value.ownBlock] using Ne.symm hp) (by simpa [Value.ownBlock] using xA)]
  exact hgg
theorem cQ {B e sz n b:Nat} {T:TypeId} {v:Value} {xs:List Value} {w:World} (h:w.ownsRow B e sz v n xs) (Q:∃ xF,w.heap[b]? = some (.cells xF T (0,0))) (xA:T ≠ e):some b ≠ v.ownBlock:=by
 obtain ⟨cb,Q⟩:=Q
 rcases h.2 with ⟨rfl,_⟩ | ⟨g,cap,xF,rfl,_,hgg,rest⟩
 ·simp [Value.ownBlock]
 ·intro e0
  simp only [Value.ownBlock,Option.some.injEq] at e0
  subst e0
  rw [Q] at hgg
  simp only [Option.some.injEq,Obj.cells.injEq] at hgg
  exact xA hgg.2.1
theorem MatS.nq {mb B:Nat} {W:World} {next:Int} {vq:Value} {l:List Od} {t:Od} {vt:Value} {ts:List Ev} (h:MatS mb B W next vq l t vt ts):some mb ≠ vq.ownBlock:=cQ h.orow h.box (by decide)
theorem MatS.nt {mb B:Nat} {W:World} {next:Int} {vq:Value} {l:List Od} {t:Od} {vt:Value} {ts:List Ev} (h:MatS mb B W next vq l t vt ts):some mb ≠ vt.ownBlock:=cQ h.erow h.box (by decide)
theorem MatS.lt {mb B:Nat} {W:World} {next:Int} {vq:Value} {l:List Od} {t:Od} {vt:Value} {ts:List Ev} (h:MatS mb B W next vq l t vt ts):mb < W.heap.size:=by
 obtain ⟨xF,h⟩:=h.box
 exact (yZ.1 h).1
theorem fP {B B' e e' sz sz' n n':Nat} {v v':Value} {xs xs':List Value} {w:World} (h:w.ownsRow B e sz v n xs) (h':w.ownsRow B' e' sz' v' n' xs') (xA:e ≠ e'):v.ownBlock = none ∨ v.ownBlock ≠ v'.ownBlock:=by
 rcases h.2 with ⟨rfl,_⟩ | ⟨g,cap,xF,rfl,Q,hgg,rest⟩
 ·exact .inl rfl
 ·refine .inr ?_
  rcases h'.2 with ⟨rfl,_⟩ | ⟨g',uE,cur',rfl,oW,hgg',rest'⟩
  ·simp [Value.ownBlock]
  ·intro e0
   simp only [Value.ownBlock,Option.some.injEq] at e0
   subst e0
   rw [hgg] at hgg'
   simp only [Option.some.injEq,Obj.cells.injEq] at hgg'
   exact xA hgg'.2.1
theorem trade_any (mb B:Nat) (next:Int) (vq:Value) (l:List Od) (t:Od) (vt:Value) (ts:List Ev) (o:Od) (k:Nat) (w:World) (h:MatS mb B w next vq l t vt ts)
  (hk:plc l o.id = k) (hc:l[k]? = some o) (hn:l.length ≤ 1000) (hts:ts.length ≤ 1000) (ht0:0 ≤ t.left) (ht1:t.left ≤ 1000000) (ho0:0 ≤ o.left) (oa:o.left ≤ 1000000) (qty:Int) (hq:qty = min t.left o.left) :
  Calls Tryz.prog 217 #[J mb 0,.agg (yx o.id o.side o.ticks o.left o.life o.tag).toArray] w fun e w' =>
   ∃ uH vt',e = yn (.tuple #[])∧MatS mb B w' next uH (bu l k o qty) { t with left:=t.left - qty } vt' (ts ++ [trE t.id o.id qty o.ticks])∧KeptBut mb B w w':=by
 obtain ⟨uM,vj,xD,xM,vi,qB⟩:=o
 simp only at *
 have HM:=H h
 have hmw:=h.lt
 have qe:=h.le
 have hnq:=h.nq
 have hnt:=h.nt
 have uf:Hid (yp w (w.alloc (A (yx uM vj xD xM vi qB).toArray 78))):=gp _ _
 have jH:=zc h.cells (U uf) hmw
 have oY:=zo w (yx uM vj xD xM vi qB) 78
 have y5:=jH 5 _ rfl
 have z3:=oY 3 _ rfl
 simp only [Nat.zero_add] at y5 z3
 have qT:=H jH
 have HF1:=H oY
 have HK:=H hk
 have HC:=H hc
 have HQ:=H hq
 clear h jH oY hk hc hq
 go_enter Tryz.func217,Tryz.ntmps217
 go_wp2_with fail
 have HF1:Hid (World.rangeAt (w.alloc (A (yx uM vj xD xM vi qB).toArray 78)) w.heap.size 0 (yx uM vj xD xM vi qB)):=U HF1
 have z3:World.cell? (w.alloc (A (yx uM vj xD xM vi qB).toArray 78)) (yr w 3) = some (I xM):=z3
 generalize (w.alloc (A (yx uM vj xD xM vi qB).toArray 78)) = W1 at uf qT HF1 y5 z3 ⊢
 have hmin:∀ W,(Builtin.min_ #[3,3] 3 #[I t.left,I xM]).run Tryz.prog W = .ok (I qty) W:=fun W=>by
  rw [U HQ]
  by_cases qi:t.left ≤ xM
  ·rw [Int.min_eq_left qi]; go_simp; omega
  ·rw [Int.min_eq_right (by omega)]; go_simp
 go_quiet (fail)
 go_wp2_with fail
 have hB0:Hid (yp w (W1.drewN nq)):=zX (U uf) nq
 have hM:Hid ((W1.drewN nq).rangeAt mb 0 [I next,vq,I t.id,I t.side,I t.ticks,I t.left,I t.life,yl t.tag,vt]):=U qT
 have hFF:Hid ((W1.drewN nq).rangeAt w.heap.size 0 (yx uM vj xD xM vi qB)):=U HF1
 have hT9:Hid ((W1.drewN nq).there mb 0 9):=zm (U HM).there (U hB0) hmw
 have HROW:Hid (ERow (W1.drewN nq) B vt ts):=dJ (U HM).erow (U hB0)
 have qI:Hid (∃ xF,(W1.drewN nq).heap[mb]? = some (.cells xF 254 (0,0))):=by obtain ⟨xF,hc⟩:=(U HM).box; exact ⟨xF,((U hB0).block mb hmw).trans hc⟩
 have HORO:Hid (ORow (W1.drewN nq) B vq l):=zO (U HM).orow (U hB0)
 have xL:w.heap.size < (W1.drewN nq).heap.size:=yL (W1.drewN nq) (yr w (0 + 0)) (U hFF 0 _ rfl)
 clear y5 z3 hmin qT HF1 uf
 generalize W1.drewN nq = W0 at hB0 hM hFF hT9 HROW HORO qI xL ⊢
 have HM8:Hid (W0.cell? (D mb 8) = some vt):=U hM 8 _ rfl
 have xR:Hid (W0.cell? (D mb 2) = some (I t.id)):=U hM 2 _ rfl
 have HF0:Hid (W0.cell? (yr w 0) = some (I uM)):=U hFF 0 _ rfl
 have vG:Hid (W0.cell? (yr w 2) = some (I xD)):=U hFF 2 _ rfl
 have HF8:Hid (W0.frozen? (D mb 8) = false):=by have:=(U hT9 8 (by omega)).2; rwa [Nat.zero_add] at this
 have hmw0:mb < W0.heap.size:=by omega
 have hBW0:B ≤ W0.heap.size:=by omega
 obtain ⟨i0,vC,uK,uL,uZ⟩:=info_parts infoEv
 refine zn (RT (fun cl=>yp W0 cl) (fun f=>{ tmps:=#[J mb 0,.agg (yx uM vj xD xM vi qB).toArray,M,yq w 0,I qty,J mb 0,J mb 0,J mb 2,J mb 5,I t.left,yq w 3,I xM,I qty,f 0,f 1,f 2,f 3,f 4,f 5,f 6,f 7,f 8,f 9,f 10,f 11,f 12,f 13,f 14,f 15,f 16,f 17,f 18,f 19,M,M,M,M,M,M,M,M,M,M,M,M,M,M,M,M,M],defers:=[] }) 17 20 (DT mb w.heap.size B W0 vt ts t.id uM qty xD)) (by kernel_rfl) ?_ ?_ ?_
 ·exact ⟨fun _=>M,rfl,fun _=>⟨rfl,rfl,rfl,Nat.le_refl _,fun _ _=>rfl⟩,fun j X=>by rw [yJ] at X; split at X <;> simp at X⟩
 ·rintro x gs cl ⟨f,rfl,-,hD⟩ hx xO
  have xq:=zP xO hx (acyc _ (by kernel_rfl))
  have pC:x[17]? = some true:=xq 17 (by simp)
  have k20:x[20]? = some true:=xq 20 (by simp)
  obtain ⟨va,vc,-,-,-,qF⟩:=hD 17 pC
  obtain ⟨q1,q2,q3⟩:=qF k20
  have jx:Hid (_∧_∧_):=⟨q1,q2,q3⟩
  clear hD xq xO hx pC k20 qF q1 q2 q3
  dsimp only
  generalize f 17 = v17 at jx ⊢
  generalize f 0 = a0,f 1 = a1,f 2 = a2,f 3 = a3,f 4 = a4,f 5 = a5,f 6 = a6,f 7 = a7,f 8 = a8,f 9 = a9,f 10 = a10,f 11 = a11,f 12 = a12,f 13 = a13,f 14 = a14,f 15 = a15,f 16 = a16,f 18 = a18,f 19 = a19
  obtain ⟨q1,q2,q3⟩:=U jx
  have hvtB:∀ g,vt.ownBlock = some g→B ≤ g∧g < w.heap.size:=(U HM).erow.lt
  have z0:cl.cell? (yr w 0) = some (I uM):=(yR (a:=(yr w 0)) (q3.block w.heap.size xL (by omega) (fun e=>by have:=hvtB _ e.symm; omega))).trans (U HF0)
  have y5:cl.cell? (D mb 5) = some (I t.left):=(q3.cell 5 (by omega)).trans (U hM 5 _ rfl)
  have f5:cl.frozen? (D mb 5) = false:=(q3.frozen 5).trans (by have:=(U hT9 5 (by omega)).2; rwa [Nat.zero_add] at this)
  have hwr:IntKind.i64.wrap (t.left - qty) = t.left - qty:=by rw [IntKind.wrap_i64]; have:=U HQ; omega
  have hbxV:∃ xF,cl.heap[mb]? = some (.cells xF 254 (0,0)):=by obtain ⟨xF,hc⟩:=U qI; exact q3.kind _ _ _ hc
  have hn17:some mb ≠ v17.ownBlock:=cQ q2 hbxV (by decide)
  have HBX2:Hid (∃ xF,(cl.setCell (D mb 5) (I (t.left - qty))).drew.heap[mb]? = some (.cells xF 254 (0,0))):=by obtain ⟨xF,hc⟩:=hbxV; exact cI cl mb 5 _ hc
  have hms2:mb < (cl.setCell (D mb 5) (I (t.left - qty))).drew.heap.size:=by
   have:=q3.size
   show mb < (cl.setCell (D mb 5) (I (t.left - qty))).heap.size
   simp [World.setCell]; omega
  have q4:ORow cl B vq l:=row_took (U HORO) q3 hnq (fP (U HORO) (U HROW) (by decide))
  have Z0:(cl.setCell (D mb 5) (I (t.left - qty))).drew.cell? (yr w 0) = some (I uM):=(yM _ _ _ _ (fun e=>by have:=congrArg Addr.block e; simp at this; omega)).trans z0
  have qS:Hid (ORow (cl.setCell (D mb 5) (I (t.left - qty))).drew B vq l):=bN q4 hnq 5 _
  have HE2:Hid (ERow (cl.setCell (D mb 5) (I (t.left - qty))).drew B v17 (ts ++ [trE t.id uM qty xD])):=bN q2 (cQ q2 hbxV (by decide)) 5 _
  have HC5:Hid ((cl.setCell (D mb 5) (I (t.left - qty))).drew.cell? (D mb 5) = some (I (t.left - qty))):=yN _ _ _ y5
  have uy:Hid (∀ j,j ≠ 5→(cl.setCell (D mb 5) (I (t.left - qty))).drew.cell? (D mb j) = cl.cell? (D mb j)):=fun j X=>yM _ _ _ _ (cW (fun e=>X e.symm))
  have HFR:Hid (∀ j,(cl.setCell (D mb 5) (I (t.left - qty))).drew.frozen? (D mb j) = cl.frozen? (D mb j)):=fun j=>World.frozen?_setCell _ _ _ _
  have xU:Hid (KeptBut mb B w (cl.setCell (D mb 5) (I (t.left - qty))).drew):=kept_drew (dZ (dZ (fK (U hB0) (by omega)) (kept_took q3 (by omega) (fun g hg=>(hvtB g hg).1))) (kept_set cl 5 _))
  have ug:B ≤ (cl.setCell (D mb 5) (I (t.left - qty))).drew.heap.size:=by
   have:=q3.size
   show B ≤ (cl.setCell (D mb 5) (I (t.left - qty))).heap.size
   simp [World.setCell]; omega
  clear q2 q4 jx hbxV
  have Q1:=H q1
  have Q3:=H q3
  clear q1 q3 z0
  go_wp2_with fail
  generalize oB:cl.setCell (D mb 5) (I (t.left - qty)) = V2 at Z0 qS HE2 HC5 uy HFR xU ug HBX2 hms2 ⊢
  clear oB y5 f5 hwr
  refine zF 6 (by kernel_rfl) (by kernel_rfl) ?_
  simp only [yU,List.take_zero,yV,List.drop_zero]
  repeat still_step
  refine wpStill_nil ?_
  go_wp2_with fail
  refine (fo mb 0 B next uM qty vq l k ⟨uM,vj,xD,xM,vi,qB⟩ _ ((U uy 0 (by omega)).trans (((U Q3).cell 0 (by omega)).trans (U hM 0 _ rfl))) ((U uy 1 (by omega)).trans (((U Q3).cell 1 (by omega)).trans (U hM 1 _ rfl))) ((U HFR 1).trans (((U Q3).frozen 1).trans (by have:=(U hT9 1 (by omega)).2; rwa [Nat.zero_add] at this))) (U qS) hnq hms2 ug hn (U HK) (U HC) (by have:=U HQ; omega) (by have:=U HQ; show qty ≤ xM; omega) oa).mono ?_
  rintro e w9 ⟨uH,rfl,js,oe,bj⟩
  have HC1:=H js
  have HO9:=H oe
  have HT9:=H bj
  clear js oe bj
  go_wp2_with fail
  go_end0
  have xr:∀ j,j ≠ 1→j ≠ 5→j ≠ 8→w9.cell? (D mb j) = W0.cell? (D mb j):=fun j N h5 h8=>((U HT9).cell j (by omega)).trans ((U uy j h5).trans ((U Q3).cell j (by omega)))
  have xW:w9.rangeAt mb 0 [I next,uH,I t.id,I t.side,I t.ticks,I (t.left - qty),I t.life,yl t.tag,v17]:=by
   intro j u X
   rw [Nat.zero_add]
   match j,X with
   | 0,X=>cases X; exact (xr 0 (by omega) (by omega) (by omega)).trans (U hM 0 _ rfl)
   | 1,X=>cases X; exact U HC1
   | 2,X=>cases X; exact (xr 2 (by omega) (by omega) (by omega)).trans (U hM 2 _ rfl)
   | 3,X=>cases X; exact (xr 3 (by omega) (by omega) (by omega)).trans (U hM 3 _ rfl)
   | 4,X=>cases X; exact (xr 4 (by omega) (by omega) (by omega)).trans (U hM 4 _ rfl)
   | 5,X=>cases X; exact ((U HT9).cell 5 (by omega)).trans (U HC5)
   | 6,X=>cases X; exact (xr 6 (by omega) (by omega) (by omega)).trans (U hM 6 _ rfl)
   | 7,X=>cases X; exact (xr 7 (by omega) (by omega) (by omega)).trans (U hM 7 _ rfl)
   | 8,X=>cases X; exact ((U HT9).cell 8 (by omega)).trans ((U uy 8 (by omega)).trans (U Q1))
   | j + 9,X=>simp at X
  refine ⟨uH,v17,rfl,⟨xW,fun j X=>⟨?_,?_⟩,U HO9,row_took (U HE2) (U HT9) hn17 (fP (U HE2) (U qS) (by decide)),by obtain ⟨xF,hc⟩:=U HBX2; exact (U HT9).kind _ _ _ hc,yO ug (U HT9).size⟩,dZ (U xU) (kept_took (U HT9) ug (fun g hg=>((U qS).lt g hg).1))⟩
  ·match j,X with
   | 0,_=>exact Option.isSome_iff_exists.2 ⟨_,xW 0 _ rfl⟩
   | 1,_=>exact Option.isSome_iff_exists.2 ⟨_,xW 1 _ rfl⟩
   | 2,_=>exact Option.isSome_iff_exists.2 ⟨_,xW 2 _ rfl⟩
   | 3,_=>exact Option.isSome_iff_exists.2 ⟨_,xW 3 _ rfl⟩
   | 4,_=>exact Option.isSome_iff_exists.2 ⟨_,xW 4 _ rfl⟩
   | 5,_=>exact Option.isSome_iff_exists.2 ⟨_,xW 5 _ rfl⟩
   | 6,_=>exact Option.isSome_iff_exists.2 ⟨_,xW 6 _ rfl⟩
   | 7,_=>exact Option.isSome_iff_exists.2 ⟨_,xW 7 _ rfl⟩
   | 8,_=>exact Option.isSome_iff_exists.2 ⟨_,xW 8 _ rfl⟩
   | j + 9,h=>omega
  ·have:=(U hT9 j X).2
   rw [Nat.zero_add] at this ⊢
   exact ((U HT9).frozen j).trans ((U HFR j).trans (((U Q3).frozen j).trans this))
 ·rintro x gs cl i op ⟨f,rfl,pN,hD⟩ F hx Z xt E
  have qj:=H pN
  have HD:=H hD
  have kX:i < 17→0 < i→¬ x[17]? = some true:=fun xI qQ ji=>by
   have h16:=yh F 17 rfl ji 16 rfl
   have h4:=yh F 17 rfl ji 4 rfl
   have vW:=yh F 16 rfl h16 15 rfl
   have h9:=yh F 15 rfl vW 9 rfl
   have uU:=yh F 15 rfl vW 11 rfl
   have uN:=yh F 15 rfl vW 12 rfl
   have oT:=yh F 15 rfl vW 14 rfl
   have h8:=yh F 9 rfl h9 8 rfl
   have h7:=yh F 8 rfl h8 7 rfl
   have h6:=yh F 7 rfl h7 6 rfl
   have h5:=yh F 6 rfl h6 5 rfl
   have uY:=yh F 11 rfl uU 10 rfl
   have jY:=yh F 14 rfl oT 13 rfl
   have h3:=yh F 4 rfl h4 3 rfl
   have Y:=yh F 3 rfl h3 2 rfl
   have N:=yh F 2 rfl Y 1 rfl
   have vM:∀ j,0 < j→j < 17→x[j]? = some true:=fun j hj0 X=>by
    rcases (by omega:j = 1 ∨ j = 2 ∨ j = 3 ∨ j = 4 ∨ j = 5 ∨ j = 6 ∨ j = 7 ∨ j = 8 ∨ j = 9 ∨ j = 10 ∨ j = 11 ∨ j = 12 ∨ j = 13 ∨ j = 14 ∨ j = 15 ∨ j = 16) with rfl | rfl | rfl | rfl | rfl | rfl | rfl | rfl | rfl | rfl | rfl | rfl | rfl | rfl | rfl | rfl <;> assumption
   rw [vM i qQ xI] at xt; cases xt
  have n20':i < 20→¬ x[20]? = some true:=fun xI h20=>by
   have h19:=yh F 20 rfl h20 19 rfl
   have ji:=yh F 20 rfl h20 17 rfl
   have pK:=yh F 19 rfl h19 18 rfl
   have h16:=yh F 17 rfl ji 16 rfl
   have h4:=yh F 17 rfl ji 4 rfl
   have vW:=yh F 16 rfl h16 15 rfl
   have h9:=yh F 15 rfl vW 9 rfl
   have uU:=yh F 15 rfl vW 11 rfl
   have uN:=yh F 15 rfl vW 12 rfl
   have oT:=yh F 15 rfl vW 14 rfl
   have h8:=yh F 9 rfl h9 8 rfl
   have h7:=yh F 8 rfl h8 7 rfl
   have h6:=yh F 7 rfl h7 6 rfl
   have h5:=yh F 6 rfl h6 5 rfl
   have uY:=yh F 11 rfl uU 10 rfl
   have jY:=yh F 14 rfl oT 13 rfl
   have h3:=yh F 4 rfl h4 3 rfl
   have Y:=yh F 3 rfl h3 2 rfl
   have N:=yh F 2 rfl Y 1 rfl
   have h0:=yh F 18 rfl pK 0 rfl
   have vM:∀ j,j < 20→x[j]? = some true:=fun j X=>by
    rcases (by omega:j = 0 ∨ j = 1 ∨ j = 2 ∨ j = 3 ∨ j = 4 ∨ j = 5 ∨ j = 6 ∨ j = 7 ∨ j = 8 ∨ j = 9 ∨ j = 10 ∨ j = 11 ∨ j = 12 ∨ j = 13 ∨ j = 14 ∨ j = 15 ∨ j = 16 ∨ j = 17 ∨ j = 18 ∨ j = 19) with rfl | rfl | rfl | rfl | rfl | rfl | rfl | rfl | rfl | rfl | rfl | rfl | rfl | rfl | rfl | rfl | rfl | rfl | rfl | rfl <;> assumption
   rw [vM i xI] at xt; cases xt
  have xm:∀ (b o:Nat) (u:Value),W0.cell? (D b o) = some u→¬ x[17]? = some true→cl.cell? (D b o) = some u:=fun b o u hu hn17=>((pN hn17).cell (p:=(D b o)) (yL W0 _ hu)).trans hu
  clear pN F
  match i,Z with
  | 0,Z | 1,Z | 5,Z =>
   obtain rfl:=yc Z
   clear E hD
   rw [if_pos (by rfl)];unfold Oper.wp;go_simp
   exact ⟨upd f _ (J mb 0),by simp [upd],zV (U HD) (by decide) (by decide) (fun _ _ h=>h) (U qj) rfl⟩
  | 2,Z =>
   obtain rfl:=yc Z
   have g:f 1 = J mb 0:=hD 1 (yf E 1 rfl)
   clear E hD
   rw [if_pos (by rfl)];unfold Oper.wp;go_simp
   exact ⟨upd f 2 (J mb 0),by simp [upd,g],zV (U HD) (by decide) (by decide) (fun _ _ h=>h) (U qj) rfl⟩
  | 3,Z =>
   obtain rfl:=yc Z
   have g:f 2 = J mb 0:=hD 2 (yf E 2 rfl)
   clear E hD
   rw [if_pos (by rfl)];unfold Oper.wp;go_simp
   exact ⟨upd f 3 (J mb 8),by simp [upd,g],zV (U HD) (by decide) (by decide) (fun _ _ h=>h) (U qj) rfl⟩
  | 4,Z =>
   obtain rfl:=yc Z
   have g:f 3 = J mb 8:=hD 3 (yf E 3 rfl)
   have jA:=kX (by omega) (by omega)
   have y8:=xm mb 8 _ (U HM8) jA
   clear E hD
   rw [if_pos (by rfl)];unfold Oper.wp;go_simp
   exact ⟨upd f 4 (vt),by simp [upd,g],zV (U HD) (by decide) (by decide) (fun _ _ h=>h) (U qj) rfl⟩
  | 6,Z =>
   obtain rfl:=yc Z
   have g:f 5 = J mb 0:=hD 5 (yf E 5 rfl)
   clear E hD
   rw [if_pos (by rfl)];unfold Oper.wp;go_simp
   exact ⟨upd f 6 (J mb 0),by simp [upd,g],zV (U HD) (by decide) (by decide) (fun _ _ h=>h) (U qj) rfl⟩
  | 7,Z =>
   obtain rfl:=yc Z
   have g:f 6 = J mb 0:=hD 6 (yf E 6 rfl)
   clear E hD
   rw [if_pos (by rfl)];unfold Oper.wp;go_simp
   exact ⟨upd f 7 (J mb 2),by simp [upd,g],zV (U HD) (by decide) (by decide) (fun _ _ h=>h) (U qj) rfl⟩
  | 8,Z =>
   obtain rfl:=yc Z
   have g:f 7 = J mb 2:=hD 7 (yf E 7 rfl)
   clear E hD
   rw [if_pos (by rfl)];unfold Oper.wp;go_simp
   exact ⟨upd f 8 (J mb 2),by simp [upd,g],zV (U HD) (by decide) (by decide) (fun _ _ h=>h) (U qj) rfl⟩
  | 9,Z =>
   obtain rfl:=yc Z
   have g:f 8 = J mb 2:=hD 8 (yf E 8 rfl)
   have jA:=kX (by omega) (by omega)
   have y2:=xm mb 2 _ (U xR) jA
   clear E hD
   rw [if_pos (by rfl)];unfold Oper.wp;go_simp
   exact ⟨upd f 9 (I t.id),by simp [upd,g],zV (U HD) (by decide) (by decide) (fun _ _ h=>h) (U qj) rfl⟩
  | 10,Z =>
   obtain rfl:=yc Z
   clear E hD
   rw [if_pos (by rfl)];unfold Oper.wp;go_simp
   exact ⟨upd f 10 (yq w 0),by simp [upd],zV (U HD) (by decide) (by decide) (fun _ _ h=>h) (U qj) rfl⟩
  | 11,Z =>
   obtain rfl:=yc Z
   have g:f 10 = yq w 0:=hD 10 (yf E 10 rfl)
   have jA:=kX (by omega) (by omega)
   have z0:=xm w.heap.size 0 _ (U HF0) jA
   clear E hD
   rw [if_pos (by rfl)];unfold Oper.wp;go_simp
   exact ⟨upd f 11 (I uM),by simp [upd,g],zV (U HD) (by decide) (by decide) (fun _ _ h=>h) (U qj) rfl⟩
  | 12,Z =>
   obtain rfl:=yc Z
   clear E hD
   rw [if_pos (by rfl)];unfold Oper.wp;go_simp
   exact ⟨upd f 12 (I qty),by simp [upd],zV (U HD) (by decide) (by decide) (fun _ _ h=>h) (U qj) rfl⟩
  | 13,Z =>
   obtain rfl:=yc Z
   clear E hD
   rw [if_pos (by rfl)];unfold Oper.wp;go_simp
   exact ⟨upd f 13 (yq w 2),by simp [upd],zV (U HD) (by decide) (by decide) (fun _ _ h=>h) (U qj) rfl⟩
  | 14,Z =>
   obtain rfl:=yc Z
   have g:f 13 = yq w 2:=hD 13 (yf E 13 rfl)
   have jA:=kX (by omega) (by omega)
   have z2:=xm w.heap.size 2 _ (U vG) jA
   clear E hD
   rw [if_pos (by rfl)];unfold Oper.wp;go_simp
   exact ⟨upd f 14 (I xD),by simp [upd,g],zV (U HD) (by decide) (by decide) (fun _ _ h=>h) (U qj) rfl⟩
  | 15,Z =>
   obtain rfl:=yc Z
   have g9:f 9 = I t.id:=hD 9 (yf E 9 rfl)
   have vI:f 11 = I uM:=hD 11 (yf E 11 rfl)
   have ua:f 12 = I qty:=hD 12 (yf E 12 rfl)
   have jo:f 14 = I xD:=hD 14 (yf E 14 rfl)
   clear E hD
   rw [if_pos (by rfl)];unfold Oper.wp;go_simp
   exact ⟨upd f 15 (evV (trE t.id uM qty xD)),by simp [upd,g9,vI,ua,jo,evV,trE,zCm],zV (U HD) (by decide) (by decide) (fun _ _ h=>h) (U qj) rfl⟩
  | 16,Z =>
   obtain rfl:=yc Z
   have g:f 15 = evV (trE t.id uM qty xD):=hD 15 (yf E 15 rfl)
   have jA:=kX (by omega) (by omega)
   have vo:=U qj jA
   clear E hD
   unfold evV trE at g
   rw [if_pos (by rfl)];unfold Oper.wp;go_simp
   refine ⟨upd f 16 (.slice (some (yr cl 0)) 1 1),by simp [upd,g],zV (U HD) (by decide) (by decide) (dt_alloc jA) (fun _=>vo.alloc vo.size _) ⟨cl.heap.size,rfl,fun _=>?_⟩⟩
   exact cellsT cl (trE t.id uM qty xD) 52
  | 17,Z =>
   obtain rfl:=yc Z
   have g4:f 4 = vt:=hD 4 (yf E 4 rfl)
   obtain ⟨s,g16,kI⟩:=hD 16 (yf E 16 rfl)
   have jA:¬ x[17]? = some true:=by rw [xt]; simp
   have n20:=n20' (by omega)
   have vo:=U qj jA
   have uJ:ERow cl B vt ts:=dJ (U HROW) vo
   rw [if_pos (by rfl)]
   refine wp_append_own cl (.tmp 17) (.tmp 29) 36 rfl B 52 i0 _ 14 120 Tryz.underlying36 vC uK uL uZ rfl (by decide) vt ts.length (ts.flatMap Ev.vs) g4 uJ (D s 0) 1 1 (trE t.id uM qty xD).vs g16 rfl (kI jA) (one_ev _) (by unfold maxLen; omega) (by omega) (by have:=vo.size; omega) ?_
   intro v' w' xS um _
   obtain ⟨ga,gc,rfl⟩:=row_sliceT xS (by omega)
   refine ⟨upd f 17 (.slice (some (D ga 0)) (ts.length + 1) gc),rfl,rt_one (by decide) (U HD) xt n20 (fun j v X h=>dt_one j v X h) ⟨some (D ga 0),gc,rfl,trivial,fun _=>⟨?_,?_⟩,fun h=>h.elim⟩⟩
   ·show World.ownsRow _ _ _ _ _ (ts ++ [trE t.id uM qty xD]).length _
    rw [yQ,List.flatMap_append]; simpa using xS
   ·exact (cR vo yb).trans um
  | 18,Z =>
   obtain rfl:=yc Z
   have g:f 0 = J mb 0:=hD 0 (yf E 0 rfl)
   clear E hD
   rw [if_pos (by rfl)];unfold Oper.wp;go_simp
   exact ⟨upd f 18 (J mb 0),by simp [upd,g],zV (U HD) (by decide) (by decide) (fun _ _ h=>h) (U qj) rfl⟩
  | 19,Z =>
   obtain rfl:=yc Z
   have g:f 18 = J mb 0:=hD 18 (yf E 18 rfl)
   clear E hD
   rw [if_pos (by rfl)];unfold Oper.wp;go_simp
   exact ⟨upd f 19 (J mb 8),by simp [upd,g],zV (U HD) (by decide) (by decide) (fun _ _ h=>h) (U qj) rfl⟩
  | 20,Z =>
   obtain rfl:=yc Z
   have g19:f 19 = J mb 8:=hD 19 (yf E 19 rfl)
   have pC:x[17]? = some true:=E ⟨17,.data⟩ (by simp) rfl
   have n20:¬ x[20]? = some true:=by rw [xt]; simp
   obtain ⟨ga,gc,g17,-,hfa,-⟩:=hD 17 pC
   obtain ⟨jk,um⟩:=hfa n20
   have oI:some mb ≠ vt.ownBlock:=hnt
   have y8:=um.cell (U HM8) oI
   have f8:cl.frozen? (D mb 8) = false:=(World.frozen?_of_block (a:=(D mb 8)) (um.block mb (by omega) oI)).trans (U HF8)
   have kh:=H (g17 ▸ jk)
   have HBXV:Hid (∃ xF,cl.heap[mb]? = some (.cells xF 254 (0,0))):=by obtain ⟨xF,hc⟩:=U qI; exact ⟨xF,(um.block mb (by omega) oI).trans hc⟩
   have HGR:=H um
   clear E hD jk um hfa
   rw [if_pos (by rfl)];unfold Oper.wp;go_simp
   refine ⟨upd f 20 M,by simp [upd,g19,g17],rt_two (by decide) (U HD) pC xt (fun j X hxj h=>dt_two j X h (fun hj17=>?_)) trivial⟩
   subst hj17
   obtain ⟨-,-,-,-,-,-⟩:=h
   refine ⟨ga,gc,g17,trivial,fun h=>absurd trivial h,fun _=>?_⟩
   rw [g17]
   refine ⟨yN _ _ _ y8,bN (U kh) (cQ (U kh) (U HBXV) (by decide)) 8 _,?_⟩
   exact eb (dM (U HGR) (by omega) oI) (took_set (o:=7) _ _)
  | i + 21,Z=>simp at Z
end Go.Proofs.YtnphbkgfjanmgaaGreatDoor
