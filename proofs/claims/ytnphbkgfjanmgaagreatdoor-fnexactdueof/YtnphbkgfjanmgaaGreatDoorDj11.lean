/-
  A queue grouped into levels, order by order: what comes of it, as pure data; no function walked.
-/
import Derived.Test.YtnphbkgfjanmgaaGreatDoorDj10
set_option linter.unusedVariables false
set_option maxHeartbeats 6400000
set_option maxRecDepth 100000
namespace Go.Proofs.YtnphbkgfjanmgaaGreatDoor
open Go.RowKit
theorem flat_set {α:Type} {f:α→List Value} {sz:Nat} (hf:∀ c,(f c).length = sz):∀ (l:List α) (i j:Nat) (c c':α) (u:Value),l[i]? = some c→j < sz→f c' = (f c).set j u→(l.flatMap f).set (i * sz + j) u = (l.set i c').flatMap f
 | [],_,_,_,_,_,h,_,_=>by simp at h
 | a :: l,0,j,c,c',u,h,V,hc=>by
  simp at h; subst h
  rw [List.set_cons_zero,List.flatMap_cons,List.flatMap_cons,hc,Nat.zero_mul,Nat.zero_add,List.set_append_left _ _ (by rw [hf]; exact V)]
 | a :: l,i + 1,j,c,c',u,h,V,hc=>by
  simp at h
  rw [List.set_cons_succ,List.flatMap_cons,List.flatMap_cons,← flat_set hf l i j c c' u h V hc,List.set_append_right _ _ (by rw [hf,Nat.add_mul]; omega),hf]
  congr 2
  rw [Nat.add_mul]; omega
def aN (l:List Od) (k:Nat) (c:Od) (qty:Int):List Od:=if c.left = qty then l.take k ++ l.drop (k + 1) else l.set k { c with left:=c.left - qty }
structure TookAt (p o:Nat) (G:Option Nat) (w w':World):Prop where
 os:w'.os = w.os
 tape:w'.tape = w.tape
 output:w'.output = w.output
 size:w.heap.size ≤ w'.heap.size
 block:∀ k,k < w.heap.size→k ≠ p→some k ≠ G→w'.heap[k]? = w.heap[k]?
 cell:∀ j,j ≠ o + 1→w'.cell? ⟨p,j,none⟩ = w.cell? ⟨p,j,none⟩
 frozen:∀ j,w'.frozen? ⟨p,j,none⟩ = w.frozen? ⟨p,j,none⟩
 kind:∀ cur t x,w.heap[p]? = some (.cells cur t x)→∃ cur',w'.heap[p]? = some (.cells cur' t x)
theorem bN (w:World) (p o:Nat) (u:Value) {xF:Array Value} {t:TypeId} {x:Nat × Nat} (h:w.heap[p]? = some (.cells xF t x)):∃ cur',(w.setCell (Q p o) u).heap[p]? = some (.cells cur' t x):=by
 simp [World.setCell,Array.getElem?_modify,h]
theorem bd {W:World} {B e sz n:Nat} {v:Value} {xs:List Value} (h:W.ownsRow B e sz v n xs) {b:Nat} (E:some b ≠ v.ownBlock) (o:Nat) (u:Value):(W.setCell (Q b o) u).ownsRow B e sz v n xs :=
 h.kept (row:=some b) ⟨rfl,rfl,rfl,by simp [World.setCell],fun k _ hk=>yT _ _ _ _ (fun e=>hk (by rw [e]))⟩ (.inr (Ne.symm E))
theorem cO {p o:Nat} {G:Option Nat} {w w':World} (h:w.grownBy w' G) (hp:p < w.heap.size) (xD:some p ≠ G):TookAt p o G w w' :=
 ⟨h.os,h.tape,h.output,h.size,fun k hk _ hG=>h.block k hk hG,fun j _=>yR (a:=(Q p j)) (h.block p hp xD),fun j=>World.frozen?_of_block (a:=(Q p j)) (h.block p hp xD),fun xF t x hh=>⟨xF,(h.block p hp xD).trans hh⟩⟩
theorem dh {p o:Nat} {G:Option Nat} {w w1 w2:World} (N:TookAt p o G w w1) (Y:TookAt p o G w1 w2):TookAt p o G w w2 :=
 ⟨Y.os.trans N.os,Y.tape.trans N.tape,Y.output.trans N.output,yO N.size Y.size,fun k hk hp hG=>(Y.block k (yK hk N.size) hp hG).trans (N.block k hk hp hG),fun j V=>(Y.cell j V).trans (N.cell j V),fun j=>(Y.frozen j).trans (N.frozen j),fun xF t x hh=>by obtain ⟨c1,h3⟩:=N.kind xF t x hh; exact Y.kind c1 t x h3⟩
theorem took_set {p o:Nat} {G:Option Nat} (w:World) (u:Value):TookAt p o G w (w.setCell (Q p (o + 1)) u) :=
 ⟨rfl,rfl,rfl,by simp [World.setCell],fun k _ hp _=>yT _ _ _ _ hp,fun j V=>yM _ _ _ _ (bY (fun e=>V e.symm)),fun j=>World.frozen?_setCell _ _ _ _,fun xF t x hh=>bN w p (o + 1) u hh⟩
theorem zM {W W':World} {B:Nat} {v:Value} {l:List Od} (h:ORow W B v l) (E:yp W W'):ORow W' B v l :=
 World.ownsRow.kept h (row:=none) (cD E yb) (by cases v.ownBlock <;> simp)
theorem oRow_left {W:World} {B g n cap k:Nat} {l:List Od} {c:Od} (h:ORow W B (.slice (some (Q g 0)) n cap) l) (hn:l.length = n) (hk:l[k]? = some c) (x:Int) :
  ORow (W.setCell (Q g (k * 6 + 3)) (I x)) B (.slice (some (Q g 0)) n cap) (l.set k { c with left:=x })∧W.grownBy (W.setCell (Q g (k * 6 + 3)) (I x)) (some g):=by
 subst hn
 have s:=World.ownsRow.stored h (k * 6 + 3) (I x)
 refine ⟨?_,s.2⟩
 have e:=flat_set Od.len l k 3 c { c with left:=x } (I x) hk (by omega) rfl
 show World.ownsRow _ _ _ _ _ (l.set k _).length _
 rw [List.length_set,← e]; exact s.1
theorem et (p o B:Nat) (next id qty:Int) (vq:Value) (l:List Od) (k:Nat) (c:Od) (w:World) (c0:w.cell? (Q p o) = some (I next)) (c1:w.cell? (Q p (o + 1)) = some vq) (f1:w.frozen? (Q p (o + 1)) = false)
  (Z:ORow w B vq l) (hp:some p ≠ vq.ownBlock) (hpw:p < w.heap.size) (hB:B ≤ w.heap.size) (hn:l.length ≤ 1000) (hk:plc l id = k) (hc:l[k]? = some c) (pZ:0 ≤ qty) (oK:qty ≤ c.left) (X:c.left ≤ 1000000) :
  Calls Tryz.prog 138 #[J p o,I id,I qty] w fun e w'=>∃ uE,e = yn (.tuple #[])∧w'.cell? (Q p (o + 1)) = some uE∧ORow w' B uE (aN l k c qty)∧TookAt p o vq.ownBlock w w':=by
 have xD:l ≠ []:=by rintro rfl; simp at hc
 have oW:=(yH.1 hc).1
 have HO:=H Z
 obtain ⟨g,cap,rfl,uq,hBg,hgw⟩:=cB Z xD
 have HK:=H hk
 have HC:=H hc
 clear Z hk hc xD
 go_enter Tryz.func138,Tryz.ntmps138
 go_wp2_with fail
 refine (dY next _ l id w (zK (U HO) (by omega))).mono ?_
 rintro e w1 ⟨rfl,uk⟩
 rw [U HK]
 have ue:=H uk
 have qW:=H (zM (U HO) uk)
 have d1:w1.cell? (Q p (o + 1)) = some (.slice (some (Q g 0)) l.length cap):=(uk.cell (p:=(Q p (o + 1))) hpw).trans c1
 have e1:w1.frozen? (Q p (o + 1)) = false:=(uk.frozen (p:=(Q p (o + 1))) hpw).trans f1
 have hsz1:=uk.size
 obtain ⟨a',cp',ee,_,pQ⟩:=zK (U qW) (by omega)
 obtain ⟨b',qr,e2,_,pQ⟩:=pQ (by intro h; rw [h] at oW; simp at oW)
 rw [e2] at ee
 simp only [Value.slice.injEq,Option.some.injEq,Addr.mk.injEq,and_true,true_and] at ee
 obtain ⟨⟨rfl,rfl⟩,-⟩:=ee
 have hcc:=pQ k c (U HC)
 rw [Nat.zero_add] at hcc
 obtain ⟨-,-,-,y3,-⟩:=zB hcc
 have fz:=World.ownsRow.frozenAt (U qW) (k * 6 + 3)
 have oJ:(k:Int) < l.length:=by omega
 have pw:(0:Int) ≤ k:=by omega
 have hwr:IntKind.i64.wrap (c.left - qty) = c.left - qty:=by rw [IntKind.wrap_i64]; omega
 have hpg:p ≠ g:=by simpa [Value.ownBlock] using hp
 have HS:=H (oRow_left (U qW) rfl (U HC) (c.left - qty))
 have d2:(w1.setCell (Q g (k * 6 + 3)) (I (c.left - qty))).cell? (Q p (o + 1)) = some (.slice (some (Q g 0)) l.length cap):=(yM _ _ _ _ (fun e=>hpg (by have:=congrArg Addr.block e; simpa using this.symm))).trans d1
 have d3:(w1.setCell (Q g (k * 6 + 3)) (I (c.left - qty))).cell? (Q g (k * 6 + 3)) = some (I (c.left - qty)):=yN _ _ _ y3
 have d4:(w1.setCell (Q g (k * 6 + 3)) (I (c.left - qty))).frozen? (Q p (o + 1)) = false:=(World.frozen?_setCell _ _ _ _).trans e1
 clear uk hcc pQ c0 c1 f1
 by_cases hz:c.left = qty
 ·have uH:c.left - qty = 0:=by omega
  have HH:Hid (aN l k c qty = l.take k ++ l.drop (k + 1)):=if_pos hz
  obtain ⟨m,hm⟩:∃ m,l.length = k + 1 + m:=⟨l.length - (k + 1),by omega⟩
  have kG:(l.set k { c with left:=c.left - qty }).length = k + 1 + m:=by rw [List.length_set,hm]
  have hdel:(l.set k { c with left:=c.left - qty }).take k ++ (l.set k { c with left:=c.left - qty }).drop (k + 1) = l.take k ++ l.drop (k + 1):=by
   rw [List.take_set_of_le yb,List.drop_set_of_lt (by omega)]
  have HDEL:=H hdel
  have HM:=H hm
  have xz:(c.left - qty == 0) = true:=by rw [beq_iff_eq]; exact uH
  obtain ⟨-,Y | ⟨g',uB,xF,Y,h3,h4,h5,h6,h7,h8⟩⟩:=(U HS).1
  ·simp at Y
  simp only [Value.slice.injEq,Option.some.injEq,Addr.mk.injEq,and_true] at Y
  obtain ⟨rfl,h9,rfl⟩:=Y
  have HDC:Hid (Calls Tryz.prog 180 #[.slice (some (Q g 0)) (k + 1 + m) cap,I k,I ((k:Int) + 1)] (w1.setCell (Q g (k * 6 + 3)) (I (c.left - qty))) _):=delete_any g k m cap B xF (l.set k { c with left:=c.left - qty }) _ kG (by rw [List.length_set]; exact hn) h4 h5 h6 h7 h8 hBg
  have ug:=H (U HS).2
  have qx:p < (w1.setCell (Q g (k * 6 + 3)) (I (c.left - qty))).heap.size:=by simp [World.setCell]; omega
  clear hdel hz kG h3 h4 h5 h6 h7 h8 h9 uq uH
  rw [hm] at d1 d2 oJ ⊢
  clear hm
  go_wp2_with fail
  refine (U HDC).mono ?_
  rw [U HDEL]
  rintro e w3 ⟨rfl,aI,uD⟩
  have s1:=uD.cell d2 (by simpa using hpg)
  have s2:w3.frozen? (Q p (o + 1)) = false:=(World.frozen?_of_block (a:=(Q p (o + 1))) (uD.block p qx (by simpa using hpg))).trans d4
  have pF:=H aI
  have vi:=H uD
  clear aI uD
  go_wp2_with fail
  go_end0
  refine ⟨_,rfl,yN _ _ _ s1,?_,?_⟩
  ·rw [U HH]
   exact bd (U pF) (by simpa [Value.ownBlock] using hpg) (o + 1) _
  ·exact dh (dh (dh (cO (cD (U ue) yb) hpw (by simpa [Value.ownBlock] using hpg)) (cO (U ug) (by omega) (by simpa [Value.ownBlock] using hpg))) (cO (U vi) qx (by simpa [Value.ownBlock] using hpg))) (took_set _ _)
 ·have uH:(c.left - qty == 0) = false:=by rw [xe]; omega
  have HH:Hid (aN l k c qty = l.set k { c with left:=c.left - qty }):=if_neg hz
  go_wp2_with fail
  go_end0
  refine ⟨_,rfl,d2,by rw [U HH]; exact (U HS).1,?_⟩
  exact dh (cO (cD (U ue) yb) hpw (by simpa [Value.ownBlock] using hpg)) (cO (U HS).2 (by omega) (by simpa [Value.ownBlock] using hpg))
section
variable {B0:Nat→World→Prop} {W W':World} {k:Nat} {xh:Prop→World→Nat→Value→Prop} {x:List Bool} {f:Nat→Value}
end
def RT (B0:World→Prop) (cl:(Nat→Value)→Act) (k h:Nat) (xh:Prop→Prop→World→Nat→Value→Prop) (x:List Bool) (cs:Act) (W:World):Prop :=
 ∃ f,cs = cl f∧(¬ x[k]? = some true→B0 W)∧∀ j,x[j]? = some true→xh (x[k]? = some true) (x[h]? = some true) W j (f j)
section
variable {B0:World→Prop} {W W':World} {k h:Nat} {xh:Prop→Prop→World→Nat→Value→Prop} {x:List Bool} {f:Nat→Value}
theorem zT (hh:∀ j,x[j]? = some true→xh (x[k]? = some true) (x[h]? = some true) W j (f j)) {i:Nat} (hik:i ≠ k) (hih:i ≠ h) (hm:∀ j v,xh (x[k]? = some true) (x[h]? = some true) W j v→xh (x[k]? = some true) (x[h]? = some true) W' j v) (hB:¬ x[k]? = some true→B0 W') {v:Value} (hv:xh (x[k]? = some true) (x[h]? = some true) W' i v) :
  (¬ (x.set i true)[k]? = some true→B0 W')∧∀ j,(x.set i true)[j]? = some true→xh ((x.set i true)[k]? = some true) ((x.set i true)[h]? = some true) W' j (upd f i v j):=by
 rw [yX hik,yX hih]
 refine ⟨hB,fun j V=>?_⟩
 by_cases hji:j = i
 ·subst hji; rw [zr]; exact hv
 ·rw [zk _ _ hji]
  rw [yX (fun e=>hji e.symm)] at V
  exact hm _ _ (hh j V)
theorem rt_one (hkh:k ≠ h) (hh:∀ j,x[j]? = some true→xh (x[k]? = some true) (x[h]? = some true) W j (f j)) (hk:x[k]? = some false) (hn:¬ x[h]? = some true) (hm:∀ j v,j ≠ k→xh False False W j v→xh True False W' j v) {v:Value} (hv:xh True False W' k v) :
  (¬ (x.set k true)[k]? = some true→B0 W')∧∀ j,(x.set k true)[j]? = some true→xh ((x.set k true)[k]? = some true) ((x.set k true)[h]? = some true) W' j (upd f k v j):=by
 have e:((x.set k true)[k]? = some true) = True:=by
  rw [List.getElem?_set_self (yH.1 hk).1]; simp
 have e2:((x.set k true)[h]? = some true) = False:=by
  rw [yX hkh]; exact eq_false hn
 have e3:(x[h]? = some true) = False:=eq_false hn
 have e4:(x[k]? = some true) = False:=by rw [hk]; simp
 rw [e,e2]
 refine ⟨fun h=>absurd trivial h,fun j V=>?_⟩
 by_cases hji:j = k
 ·subst hji; rw [zr]; exact hv
 ·rw [zk _ _ hji]
  rw [yX (fun e=>hji e.symm)] at V
  have:=hh j V
  rw [e3,e4] at this
  exact hm j _ hji this
theorem rt_two (hkh:h ≠ k) (hh:∀ j,x[j]? = some true→xh (x[k]? = some true) (x[h]? = some true) W j (f j)) (hk:x[k]? = some true) (hn:x[h]? = some false) (hm:∀ j,j ≠ h→x[j]? = some true→xh True False W j (f j)→xh True True W' j (f j)) {v:Value} (hv:xh True True W' h v) :
  (¬ (x.set h true)[k]? = some true→B0 W')∧∀ j,(x.set h true)[j]? = some true→xh ((x.set h true)[k]? = some true) ((x.set h true)[h]? = some true) W' j (upd f h v j):=by
 have e:((x.set h true)[h]? = some true) = True:=by
  rw [List.getElem?_set_self (yH.1 hn).1]; simp
 have e2:((x.set h true)[k]? = some true) = True:=by
  rw [yX hkh,hk]; simp
 have e3:(x[h]? = some true) = False:=by rw [hn]; simp
 have e4:(x[k]? = some true) = True:=by rw [hk]; simp
 rw [e,e2]
 refine ⟨fun h=>absurd trivial h,fun j V=>?_⟩
 by_cases hji:j = h
 ·subst hji; rw [zr]; exact hv
 ·rw [zk _ _ hji]
  rw [yX (fun e=>hji e.symm)] at V
  have:=hh j V
  rw [e3,e4] at this
  exact hm j hji V this
end
def trE (uz pN qty pO:Int):Ev:=⟨3,zCm,uz,pN,qty,pO,0⟩
abbrev ERow (W:World) (B:Nat) (v:Value) (l:List Ev):Prop:=W.ownsRow B 52 14 v l.length (l.flatMap Ev.vs)
theorem infoEv:(Tryz.prog.info? 52).map (fun i=>(i.zero,i.size,i.bytes)) = some (some (.agg (yw 0 0 0 0 0 0 0 0 ⟨#[]⟩ 0 0 0 0 0).toArray),14,120):=by kernel_rfl
theorem one_ev (e:Ev):∀ u ∈ e.vs,u.oneCell' = true:=by
 intro u hu
 simp [Ev.vs] at hu
 rcases hu with rfl | rfl | rfl | rfl | rfl | rfl | rfl | rfl | rfl | rfl | rfl | rfl | rfl | rfl <;> rfl
theorem cN {W W':World} {B:Nat} {v:Value} {l:List Ev} (h:ERow W B v l) (E:yp W W'):ERow W' B v l :=
 World.ownsRow.kept h (row:=none) (cD E yb) (by cases v.ownBlock <;> simp)
theorem row_sliceT {W:World} {B e sz n:Nat} {v:Value} {xs:List Value} (h:W.ownsRow B e sz v n xs) (hn:0 < n):∃ g c,v = .slice (some (Q g 0)) n c:=by
 rcases h.2 with ⟨_,h0⟩ | ⟨g,cap,_,N,_⟩
 ·omega
 ·exact ⟨g,cap,N⟩
theorem cellsT (W:World) (e:Ev) (t:TypeId):∀ j u,e.vs[j]? = some u→(W.alloc (Obj.cells e.vs.toArray t)).cell? (((yr W 0):Addr).add j) = some u:=fun j u h=>cellsQ W e.vs t j u h
def DT (mb fb B:Nat) (W0:World) (vt:Value) (ts:List Ev) (uz pN qty pO:Int) (p q:Prop) (hj:World):Nat→Value→Prop
 | 0,v=>v = J mb 0
 | 1,v=>v = J mb 0
 | 2,v=>v = J mb 0
 | 3,v=>v = J mb 8
 | 4,v=>v = vt
 | 5,v=>v = J mb 0
 | 6,v=>v = J mb 0
 | 7,v=>v = J mb 2
 | 8,v=>v = J mb 2
 | 9,v=>v = I uz
 | 10,v=>v = J fb 0
 | 11,v=>v = I pN
 | 12,v=>v = I qty
 | 13,v=>v = J fb 2
 | 14,v=>v = I pO
 | 15,v=>v = evV (trE uz pN qty pO)
 | 16,v=>∃ s,v = .slice (some (Q s 0)) 1 1∧(¬ p→∀ j u,(trE uz pN qty pO).vs[j]? = some u→hj.cell? (((Q s 0):Addr).add j) = some u)
 | 17,v=>∃ a c,v = .slice a (ts.length + 1) c∧p∧(¬ q→ERow hj B v (ts ++ [trE uz pN qty pO])∧W0.grownBy hj vt.ownBlock)∧(q→hj.cell? (Q mb 8) = some v∧ERow hj B v (ts ++ [trE uz pN qty pO])∧TookAt mb 7 vt.ownBlock W0 hj)
 | 18,v=>v = J mb 0
 | 19,v=>v = J mb 8
 | _,_=>True
section
variable {mb fb B:Nat} {W0 hj V':World} {vt:Value} {ts:List Ev} {uz pN qty pO:Int} {p q:Prop}
theorem dt_alloc {o:Obj} (hp:¬ p):∀ j v,DT mb fb B W0 vt ts uz pN qty pO p q hj j v→DT mb fb B W0 vt ts uz pN qty pO p q (hj.alloc o) j v:=by
 intro j v h
 match j with
 | 0 | 1 | 2 | 3 | 4 | 5 | 6 | 7 | 8 | 9 | 10 | 11 | 12 | 13 | 14 | 15 | 18 | 19=>exact h
 | 16 =>
  obtain ⟨s,N,Y⟩:=h
  exact ⟨s,N,fun hp j u hu=>(yW _ _ _ (yL hj _ (Y hp j u hu))).trans (Y hp j u hu)⟩
 | 17=>obtain ⟨_,_,_,Y,_⟩:=h; exact absurd Y hp
 | j + 20=>trivial
theorem dt_one:∀ j v,j ≠ 17→DT mb fb B W0 vt ts uz pN qty pO False False hj j v→DT mb fb B W0 vt ts uz pN qty pO True False V' j v:=by
 intro j v V h
 match j with
 | 0 | 1 | 2 | 3 | 4 | 5 | 6 | 7 | 8 | 9 | 10 | 11 | 12 | 13 | 14 | 15 | 18 | 19=>exact h
 | 16 =>
  obtain ⟨s,N,Y⟩:=h
  exact ⟨s,N,fun hp=>absurd trivial hp⟩
 | 17=>exact absurd rfl V
 | j + 20=>trivial
theorem dt_two {v:Value}:∀ j,j ≠ 20→DT mb fb B W0 vt ts uz pN qty pO True False hj j v→(j = 17→DT mb fb B W0 vt ts uz pN qty pO True True V' 17 v)→DT mb fb B W0 vt ts uz pN qty pO True True V' j v:=by
 intro j V h qY
 match j with
 | 0 | 1 | 2 | 3 | 4 | 5 | 6 | 7 | 8 | 9 | 10 | 11 | 12 | 13 | 14 | 15 | 18 | 19=>exact h
 | 16 =>
  obtain ⟨s,N,Y⟩:=h
  exact ⟨s,N,fun hp=>absurd trivial hp⟩
 | 17=>exact qY rfl
 | j + 20=>trivial
end
end Go.Proofs.YtnphbkgfjanmgaaGreatDoor
