/-
  Two sides of a book, planted in whatever order: what holds of memory meanwhile; no function walked.
-/
import Derived.Test.YthhkapcbocgcoaaGreatDoorGj09
set_option linter.unusedVariables false
set_option maxHeartbeats 6400000
set_option maxRecDepth 100000
namespace Go.Proofs.YthhkapcbocgcoaaGreatDoor
open Go.RowKit
def ey (b:Nat):List Value:=[.func (.func 164) #[I b 0] #[],.func (.func 165) #[I b 0] #[],.func (.func 166) #[I b 0] #[]]
def eO (b:Nat):List Value:=[.func (.func 168) #[I b 0] #[],.func (.func 169) #[I b 0] #[],.func (.func 170) #[I b 0] #[]]
abbrev Tb (w:World) (b:Nat) (q:List Od):Prop:=bY 197 true w b 1 q
abbrev Ts (w:World) (b:Nat) (q:List Od):Prop:=bY 200 false w b 2 q
structure RW9 (W0:World) (BV:Value) (q1 q2:List Od) (x:List Bool) (v33 v34 v35 v36 v5 v6:Value) (b1 b2 p5 p6:Nat) (w:World):Prop where
 bel:Below W0.heap.size W0 w
 c33:x[0]? = some true→v33 = BV
 c35:x[2]? = some true→v35 = BV
 c34:x[1]? = some true→v34 = cP b1∧Tb w b1 q1
 c36:x[3]? = some true→v36 = cQ b2∧Ts w b2 q2
 c5:x[4]? = some true→v5 = .pointer (some ⟨p5,0,none⟩)∧p5 < w.heap.size∧W0.heap.size ≤ p5∧w.there p5 0 3
 c6:x[5]? = some true→v6 = .pointer (some ⟨p6,0,none⟩)∧p6 < w.heap.size∧W0.heap.size ≤ p6∧w.there p6 0 3
 n15:x[1]? = some true→x[4]? = some true→b1 ≠ p5
 n16:x[1]? = some true→x[5]? = some true→b1 ≠ p6
 n25:x[3]? = some true→x[4]? = some true→b2 ≠ p5
 n26:x[3]? = some true→x[5]? = some true→b2 ≠ p6
 n56:x[4]? = some true→x[5]? = some true→p5 ≠ p6
 s5:x[6]? = some true→(x[1]? = some true∧x[4]? = some true)∧w.rangeAt p5 0 (ey b1)
 s6:x[7]? = some true→(x[3]? = some true∧x[5]? = some true)∧w.rangeAt p6 0 (eO b2)
section
variable {W0 w w':World} {BV:Value} {q1 q2:List Od} {x:List Bool} {v33 v34 v35 v36 v5 v6:Value} {b1 b2 p5 p6:Nat}
theorem rw9_grow (h:RW9 W0 BV q1 q2 x v33 v34 v35 v36 v5 v6 b1 b2 p5 p6 w) (A:yn w w'):RW9 W0 BV q1 q2 x v33 v34 v35 v36 v5 v6 b1 b2 p5 p6 w' where
 bel:=h.bel.trans (A.mono h.bel.size)
 c33:=h.c33
 c35:=h.c35
 c34:=fun hx=>⟨(h.c34 hx).1,zu (h.c34 hx).2 (A.block _ (zG (h.c34 hx).2))⟩
 c36:=fun hx=>⟨(h.c36 hx).1,zu (h.c36 hx).2 (A.block _ (zG (h.c36 hx).2))⟩
 c5:=fun hx=>⟨(h.c5 hx).1,yK (h.c5 hx).2.1 A.size,(h.c5 hx).2.2.1,zk (h.c5 hx).2.2.2 A (h.c5 hx).2.1⟩
 c6:=fun hx=>⟨(h.c6 hx).1,yK (h.c6 hx).2.1 A.size,(h.c6 hx).2.2.1,zk (h.c6 hx).2.2.2 A (h.c6 hx).2.1⟩
 n15:=h.n15
 n16:=h.n16
 n25:=h.n25
 n26:=h.n26
 n56:=h.n56
 s5:=fun hx=>⟨(h.s5 hx).1,zc (h.s5 hx).2 A (h.c5 (h.s5 hx).1.2).2.1⟩
 s6:=fun hx=>⟨(h.s6 hx).1,zc (h.s6 hx).2 A (h.c6 (h.s6 hx).1.2).2.1⟩
theorem gse {x:List Bool} {i j:Nat} (h:i ≠ j):(x.set i true)[j]? = x[j]?:=yX h
theorem rw9_0 (h:RW9 W0 BV q1 q2 x v33 v34 v35 v36 v5 v6 b1 b2 p5 p6 w):RW9 W0 BV q1 q2 (x.set 0 true) BV v34 v35 v36 v5 v6 b1 b2 p5 p6 w:=by
 constructor <;> try simp only [gse (show 0 ≠ 1 by decide),gse (show 0 ≠ 2 by decide),gse (show 0 ≠ 3 by decide),gse (show 0 ≠ 4 by decide),gse (show 0 ≠ 5 by decide),gse (show 0 ≠ 6 by decide),gse (show 0 ≠ 7 by decide)]
 ·exact h.bel
 ·exact fun _=>by first | rfl | trivial
 ·exact h.c35
 ·exact h.c34
 ·exact h.c36
 ·exact h.c5
 ·exact h.c6
 ·exact h.n15
 ·exact h.n16
 ·exact h.n25
 ·exact h.n26
 ·exact h.n56
 ·exact h.s5
 ·exact h.s6
theorem rw9_2 (h:RW9 W0 BV q1 q2 x v33 v34 v35 v36 v5 v6 b1 b2 p5 p6 w):RW9 W0 BV q1 q2 (x.set 2 true) v33 v34 BV v36 v5 v6 b1 b2 p5 p6 w:=by
 constructor <;> try simp only [gse (show 2 ≠ 0 by decide),gse (show 2 ≠ 1 by decide),gse (show 2 ≠ 3 by decide),gse (show 2 ≠ 4 by decide),gse (show 2 ≠ 5 by decide),gse (show 2 ≠ 6 by decide),gse (show 2 ≠ 7 by decide)]
 ·exact h.bel
 ·exact h.c33
 ·exact fun _=>by first | rfl | trivial
 ·exact h.c34
 ·exact h.c36
 ·exact h.c5
 ·exact h.c6
 ·exact h.n15
 ·exact h.n16
 ·exact h.n25
 ·exact h.n26
 ·exact h.n56
 ·exact h.s5
 ·exact h.s6
theorem rw9_1 (h:RW9 W0 BV q1 q2 x v33 v34 v35 v36 v5 v6 b1 b2 p5 p6 w) (h6:x[6]? ≠ some true) {b:Nat} (A:yn w w') (qx:w.heap.size ≤ b) (ht:Tb w' b q1) :
  RW9 W0 BV q1 q2 (x.set 1 true) v33 (cP b) v35 v36 v5 v6 b b2 p5 p6 w':=by
 have g:=rw9_grow h A
 constructor <;> try simp only [gse (show 1 ≠ 0 by decide),gse (show 1 ≠ 2 by decide),gse (show 1 ≠ 3 by decide),gse (show 1 ≠ 4 by decide),gse (show 1 ≠ 5 by decide),gse (show 1 ≠ 6 by decide),gse (show 1 ≠ 7 by decide)]
 ·exact g.bel
 ·exact g.c33
 ·exact g.c35
 ·exact fun _=>⟨by first | rfl | trivial,ht⟩
 ·exact g.c36
 ·exact g.c5
 ·exact g.c6
 ·exact fun _ h4=>by have:=(h.c5 h4).2.1; omega
 ·exact fun _ h5=>by have:=(h.c6 h5).2.1; omega
 ·exact g.n25
 ·exact g.n26
 ·exact g.n56
 ·exact fun hx=>absurd hx h6
 ·exact g.s6
theorem rw9_3 (h:RW9 W0 BV q1 q2 x v33 v34 v35 v36 v5 v6 b1 b2 p5 p6 w) (h7:x[7]? ≠ some true) {b:Nat} (A:yn w w') (qx:w.heap.size ≤ b) (ht:Ts w' b q2) :
  RW9 W0 BV q1 q2 (x.set 3 true) v33 v34 v35 (cQ b) v5 v6 b1 b p5 p6 w':=by
 have g:=rw9_grow h A
 constructor <;> try simp only [gse (show 3 ≠ 0 by decide),gse (show 3 ≠ 1 by decide),gse (show 3 ≠ 2 by decide),gse (show 3 ≠ 4 by decide),gse (show 3 ≠ 5 by decide),gse (show 3 ≠ 6 by decide),gse (show 3 ≠ 7 by decide)]
 ·exact g.bel
 ·exact g.c33
 ·exact g.c35
 ·exact g.c34
 ·exact fun _=>⟨by first | rfl | trivial,ht⟩
 ·exact g.c5
 ·exact g.c6
 ·exact g.n15
 ·exact g.n16
 ·exact fun _ h4=>by have:=(h.c5 h4).2.1; omega
 ·exact fun _ h5=>by have:=(h.c6 h5).2.1; omega
 ·exact g.n56
 ·exact g.s5
 ·exact fun hx=>absurd hx h7
theorem zM (w:World) (cs:List Value) (t:TypeId):(w.alloc (Obj.cells cs.toArray t)).there w.heap.size 0 cs.length:=eC (heap_alloc_new w _) (by simp)
theorem rw9_4 (h:RW9 W0 BV q1 q2 x v33 v34 v35 v36 v5 v6 b1 b2 p5 p6 w) (h6:x[6]? ≠ some true) (t:TypeId) :
  RW9 W0 BV q1 q2 (x.set 4 true) v33 v34 v35 v36 (yp w 0) v6 b1 b2 w.heap.size p6 (w.alloc (O #[.nilFunc,.nilFunc,.nilFunc] t)):=by
 have g:=rw9_grow h ((Below.refl _ _).alloc hU (O #[.nilFunc,.nilFunc,.nilFunc] t))
 constructor <;> try simp only [gse (show 4 ≠ 0 by decide),gse (show 4 ≠ 1 by decide),gse (show 4 ≠ 2 by decide),gse (show 4 ≠ 3 by decide),gse (show 4 ≠ 5 by decide),gse (show 4 ≠ 6 by decide),gse (show 4 ≠ 7 by decide)]
 ·exact g.bel
 ·exact g.c33
 ·exact g.c35
 ·exact g.c34
 ·exact g.c36
 ·exact fun _=>⟨by first | rfl | trivial,by rw [zi]; omega,h.bel.size,zM w [.nilFunc,.nilFunc,.nilFunc] t⟩
 ·exact g.c6
 ·exact fun Q _=>by have:=zG (h.c34 Q).2; omega
 ·exact g.n16
 ·exact fun X _=>by have:=zG (h.c36 X).2; omega
 ·exact g.n26
 ·exact fun _ h5=>by have:=(h.c6 h5).2.1; omega
 ·exact fun hx=>absurd hx h6
 ·exact g.s6
theorem rw9_5 (h:RW9 W0 BV q1 q2 x v33 v34 v35 v36 v5 v6 b1 b2 p5 p6 w) (h7:x[7]? ≠ some true) (t:TypeId) :
  RW9 W0 BV q1 q2 (x.set 5 true) v33 v34 v35 v36 v5 (yp w 0) b1 b2 p5 w.heap.size (w.alloc (O #[.nilFunc,.nilFunc,.nilFunc] t)):=by
 have g:=rw9_grow h ((Below.refl _ _).alloc hU (O #[.nilFunc,.nilFunc,.nilFunc] t))
 constructor <;> try simp only [gse (show 5 ≠ 0 by decide),gse (show 5 ≠ 1 by decide),gse (show 5 ≠ 2 by decide),gse (show 5 ≠ 3 by decide),gse (show 5 ≠ 4 by decide),gse (show 5 ≠ 6 by decide),gse (show 5 ≠ 7 by decide)]
 ·exact g.bel
 ·exact g.c33
 ·exact g.c35
 ·exact g.c34
 ·exact g.c36
 ·exact g.c5
 ·exact fun _=>⟨by first | rfl | trivial,by rw [zi]; omega,h.bel.size,zM w [.nilFunc,.nilFunc,.nilFunc] t⟩
 ·exact g.n15
 ·exact fun Q _=>by have:=zG (h.c34 Q).2; omega
 ·exact g.n25
 ·exact fun X _=>by have:=zG (h.c36 X).2; omega
 ·exact fun h4 _=>by have:=(h.c5 h4).2.1; omega
 ·exact g.s5
 ·exact fun hx=>absurd hx h7
theorem fD {p:Nat} {F0 F1 F2:Value} {k:Nat} (E:k ≠ p):(((w.setCell (J p 0) F0).setCell (J p 1) F1).setCell (J p 2) F2).heap[k]? = w.heap[k]? :=
 (yT _ _ _ _ E).trans ((yT _ _ _ _ E).trans (yT _ _ _ _ E))
theorem set3_size {p:Nat} {F0 F1 F2:Value}:(((w.setCell (J p 0) F0).setCell (J p 1) F1).setCell (J p 2) F2).heap.size = w.heap.size:=by simp [World.setCell]
theorem set3_range {p:Nat} {F0 F1 F2:Value} (ht:w.there p 0 3):(((w.setCell (J p 0) F0).setCell (J p 1) F1).setCell (J p 2) F2).rangeAt p 0 [F0,F1,F2]:=yY w p 0 [F0,F1,F2] (fun j hj=>ht j hj)
theorem gF {p b o n:Nat} {F0 F1 F2:Value} (ht:w.there b o n):(((w.setCell (J p 0) F0).setCell (J p 1) F1).setCell (J p 2) F2).there b o n:=xc ht p 0 [F0,F1,F2]
theorem set3_below {p:Nat} {F0 F1 F2:Value} (h:yn W0 w) (hp:W0.heap.size ≤ p):yn W0 (((w.setCell (J p 0) F0).setCell (J p 1) F1).setCell (J p 2) F2) :=
 ((h.setCell (p:=(J p 0)) hp F0).setCell (p:=(J p 1)) hp F1).setCell (p:=(J p 2)) hp F2
theorem range_block {b o:Nat} {cs:List Value} (h:w.rangeAt b o cs) (A:w'.heap[b]? = w.heap[b]?):w'.rangeAt b o cs:=fun j v hv=>(yR (a:=(J b (o + j))) A).trans (h j v hv)
theorem rw9_6 (h:RW9 W0 BV q1 q2 x v33 v34 v35 v36 v5 v6 b1 b2 p5 p6 w) (Q:x[1]? = some true) (X:x[3]? = some true) (h4:x[4]? = some true) (h5:x[5]? = some true) {F0 F1 F2:Value} (hF:ey b1 = [F0,F1,F2]) :
  RW9 W0 BV q1 q2 (x.set 6 true) v33 v34 v35 v36 v5 v6 b1 b2 p5 p6 (((w.setCell (J p5 0) F0).setCell (J p5 1) F1).setCell (J p5 2) F2):=by
 obtain ⟨e1,e2,e3,e4⟩:=h.c5 h4
 obtain ⟨f1,f2,f3,f4⟩:=h.c6 h5
 constructor <;> try simp only [gse (show 6 ≠ 0 by decide),gse (show 6 ≠ 1 by decide),gse (show 6 ≠ 2 by decide),gse (show 6 ≠ 3 by decide),gse (show 6 ≠ 4 by decide),gse (show 6 ≠ 5 by decide),gse (show 6 ≠ 7 by decide)]
 ·exact set3_below h.bel e3
 ·exact h.c33
 ·exact h.c35
 ·exact fun _=>⟨(h.c34 Q).1,zu (h.c34 Q).2 (fD (h.n15 Q h4))⟩
 ·exact fun _=>⟨(h.c36 X).1,zu (h.c36 X).2 (fD (h.n25 X h4))⟩
 ·exact fun _=>⟨e1,by rw [set3_size]; exact e2,e3,gF e4⟩
 ·exact fun _=>⟨f1,by rw [set3_size]; exact f2,f3,gF f4⟩
 ·exact h.n15
 ·exact h.n16
 ·exact h.n25
 ·exact h.n26
 ·exact h.n56
 ·exact fun _=>⟨⟨Q,h4⟩,by rw [hF]; exact set3_range e4⟩
 ·exact fun hx=>⟨(h.s6 hx).1,range_block (h.s6 hx).2 (fD (Ne.symm (h.n56 h4 h5)))⟩
theorem rw9_7 (h:RW9 W0 BV q1 q2 x v33 v34 v35 v36 v5 v6 b1 b2 p5 p6 w) (Q:x[1]? = some true) (X:x[3]? = some true) (h4:x[4]? = some true) (h5:x[5]? = some true) {F0 F1 F2:Value} (hF:eO b2 = [F0,F1,F2]) :
  RW9 W0 BV q1 q2 (x.set 7 true) v33 v34 v35 v36 v5 v6 b1 b2 p5 p6 (((w.setCell (J p6 0) F0).setCell (J p6 1) F1).setCell (J p6 2) F2):=by
 obtain ⟨e1,e2,e3,e4⟩:=h.c5 h4
 obtain ⟨f1,f2,f3,f4⟩:=h.c6 h5
 constructor <;> try simp only [gse (show 7 ≠ 0 by decide),gse (show 7 ≠ 1 by decide),gse (show 7 ≠ 2 by decide),gse (show 7 ≠ 3 by decide),gse (show 7 ≠ 4 by decide),gse (show 7 ≠ 5 by decide),gse (show 7 ≠ 6 by decide)]
 ·exact set3_below h.bel f3
 ·exact h.c33
 ·exact h.c35
 ·exact fun _=>⟨(h.c34 Q).1,zu (h.c34 Q).2 (fD (h.n16 Q h5))⟩
 ·exact fun _=>⟨(h.c36 X).1,zu (h.c36 X).2 (fD (h.n26 X h5))⟩
 ·exact fun _=>⟨e1,by rw [set3_size]; exact e2,e3,gF e4⟩
 ·exact fun _=>⟨f1,by rw [set3_size]; exact f2,f3,gF f4⟩
 ·exact h.n15
 ·exact h.n16
 ·exact h.n25
 ·exact h.n26
 ·exact h.n56
 ·exact fun hx=>⟨(h.s5 hx).1,range_block (h.s5 hx).2 (fD (h.n56 h4 h5))⟩
 ·exact fun _=>⟨⟨X,h5⟩,by rw [hF]; exact set3_range f4⟩
end

theorem insT_len (s:Bool) (k:Int):∀ T:List Int,(insT s k T).length ≤ T.length + 1
 | []=>by simp [insT]
 | a :: r=>by
  have:=insT_len s k r
  rw [insT]; split
  ·simp
  ·split <;> simp <;> omega
theorem tks_len (s:Bool):∀ seq:List Od,(tks s seq).length ≤ seq.length
 | []=>by simp [tks]
 | o :: r=>by
  have Q:=insT_len s o.ticks (tks s r)
  have D:=tks_len s r
  rw [tks]; simp; omega
def backB:Nat→List Oper→Bool
 | _,[]=>true
 | i,o :: r=>o.after.toList.all (fun e=>decide (e.on < i)) && backB (i + 1) r
theorem back_spec:∀ (l:List Oper) (n:Nat),backB n l = true→∀ (i:Nat) (o:Oper),l[i]? = some o→∀ e ∈ o.after,e.on < n + i
 | [],_,_,i,o,h,_,_=>by simp at h
 | a :: r,n,A,0,o,h,e,he=>by
  simp at h; subst h
  simp only [backB,xf,List.all_eq_true,xg] at A
  exact A.1 e (by simpa using he)
 | a :: r,n,A,i + 1,o,h,e,he=>by
  simp only [backB,xf] at A
  have:=back_spec r (n + 1) A.2 i o (by simpa using h) e he
  omega
theorem acyc (l:List Oper) (h:backB 0 l = true):∀ (i:Nat) (o:Oper),l[i]? = some o→∀ e ∈ o.after,e.on < i:=fun i o Y e he=>by
 have:=back_spec l 0 h i o Y e he; omega
def C10 (b1 b2 p5 p6 N1 N2:Nat):Nat→Value→Prop
 | 0,v=>v = I p5 2
 | 1,v=>v = .func (.func 166) #[I b1 0] #[]
 | 2,v=>∃ a c,v = .slice a N1 c
 | 3,v=>v = H N1
 | 4,v=>v = I p6 2
 | 5,v=>v = .func (.func 170) #[I b2 0] #[]
 | 6,v=>∃ a c,v = .slice a N2 c
 | 7,v=>v = H N2
 | 8,v=>v = H ((N1:Int) + N2)
 | 9,v=>v = H ((N1:Int) + N2)
 | _,_=>True
theorem gU (b1 b2:Nat) (sd1 sd2:Int) (s1 s2:List Od) (w:World) (Q:bY 197 true w b1 sd1 s1) (D:bY 200 false w b2 sd2 s2) (n1:s1.length ≤ 20) (n2:s2.length ≤ 20) :
  Calls Tryz.prog 76 #[cP b1,cQ b2] w fun e w'=>e = ym (H (((bX true sd1 s1).length:Int) + (bX false sd2 s2).length))∧yn w w':=by
 have ub:=zG Q
 have xP:=zG D
 generalize hL1:(bX true sd1 s1).length = N1
 generalize hL2:(bX false sd2 s2).length = N2
 have hN1:N1 ≤ 20:=by rw [← hL1,bX,List.length_map]; exact yO (tks_len _ _) n1
 have hN2:N2 ≤ 20:=by rw [← hL2,bX,List.length_map]; exact yO (tks_len _ _) n2
 have HLL:Hid ((bX true sd1 s1).length = N1∧(bX false sd2 s2).length = N2):=⟨hL1,hL2⟩
 have xF:=zi w (O (ey b1).toArray 129)
 have ug:((w.alloc (O (ey b1).toArray 129)).alloc (O (eO b2).toArray 129)).heap.size = w.heap.size + 1 + 1:=by rw [zi,xF]
 have r0:=zm w (ey b1) 129
 have r1:=zm (w.alloc (O (ey b1).toArray 129)) (eO b2) 129
 rw [xF] at r1
 have r0':=zc r0 (C:=w.heap.size + 1) ((Below.refl _ _).alloc (by rw [xF]; omega) (O (eO b2).toArray 129)) (by omega)
 have xZ:Hid (yn w ((w.alloc (O (ey b1).toArray 129)).alloc (O (eO b2).toArray 129))):=(gZ _ _).alloc (by rw [xF]; omega) _
 have pD:=M r0'
 have HR6:=M r1
 have vZ:=M ug
 have qZ:=M (zu Q ((U xZ).block _ ub))
 have vp:=M (zu D ((U xZ).block _ xP))
 clear r0 r1 r0' xF ug hL1 hL2 Q D
 unfold cP cQ
 go_enter Tryz.func76,Tryz.ntmps76
 go_wp2_with fail
 unfold ey eO at xZ pD HR6 vZ qZ vp
 generalize hW:((w.alloc (O (List.toArray [.func (.func 164) #[I b1 0] #[],.func (.func 165) #[I b1 0] #[],.func (.func 166) #[I b1 0] #[]]) 129)).alloc (O (List.toArray [.func (.func 168) #[I b2 0] #[],.func (.func 169) #[I b2 0] #[],.func (.func 170) #[I b2 0] #[]]) 129)) = W at xZ pD HR6 vZ qZ vp
 have hb1s:b1 < W.heap.size:=zG (U qZ)
 have hb2s:b2 < W.heap.size:=zG (U vp)
 have hp5:w.heap.size < W.heap.size:=by rw [U vZ]; omega
 have hp6:w.heap.size + 1 < W.heap.size:=by rw [U vZ]; omega
 refine fu (RGrow W (fun f=>{ tmps:=#[cP b1,cQ b2,yp w 0,I (w.heap.size + 1) 0,f 9,f 0,f 1,f 2,f 3,f 4,f 5,f 6,f 7,f 8],defers:=[] }) (C10 b1 b2 w.heap.size (w.heap.size + 1) N1 N2)) (by kernel_rfl) ?_ ?_ ?_
 ·refine ⟨upd (fun _=>Z) 9 (H 0),rfl,?_,fun j hj=>by rw [yJ] at hj; split at hj <;> simp at hj⟩
  rw [← hW]
  exact ⟨rfl,rfl,rfl,Nat.le_refl _,fun _ _=>rfl⟩
 ·rintro x hb V ⟨f,rfl,xi,hC⟩ hx xN
  have hall9:=zX xN hx (acyc _ (by kernel_rfl)) 9 (by simp)
  have e9:f 9 = H ((N1:Int) + N2):=hC 9 hall9
  simp only [e9]
  have xw:=M xi
  clear hC hx xN hall9 e9 xi
  go_wp2_with fail
  go_ret
  exact ⟨rfl,(U xZ).trans ((U xw).mono (U xZ).size)⟩
 ·rintro x hb V i o ⟨f,rfl,xi,hC⟩ hx Y xu K
  have xw:=M xi
  have HC:=M hC
  match i,Y with
  | 0,Y =>
   obtain rfl:=ya Y
   clear K hC xi
   rw [if_pos (by rfl)];unfold Oper.wp;go_simp
   exact ⟨upd f 0 (yp w 2),by simp [upd],U xw,zF (U HC) rfl⟩
  | 1,Y =>
   obtain rfl:=ya Y
   have g0:C10 b1 b2 w.heap.size (w.heap.size + 1) N1 N2 0 (f 0):=hC 0 (ye K 0 rfl)
   simp only [C10] at g0
   have d2:=zc (U pD) xi hp5 2 _ rfl
   clear K hC xi
   rw [if_pos (by rfl)];unfold Oper.wp;go_simp
   exact ⟨upd f 1 (.func (.func 166) #[I b1 0] #[]),by simp [upd,g0],U xw,zF (U HC) rfl⟩
  | 2,Y =>
   obtain rfl:=ya Y
   have g1:C10 b1 b2 w.heap.size (w.heap.size + 1) N1 N2 1 (f 1):=hC 1 (ye K 1 rfl)
   simp only [C10] at g1
   have ht:=zu (U qZ) (xi.block _ hb1s)
   have HTV:=M ht
   clear K hC xi ht
   rw [if_pos (by rfl)];unfold Oper.wp;go_simp
   refine (levels_b b1 sd1 s1 V (U HTV) n1).mono ?_
   rintro e w4 ⟨v4,rfl,⟨al,cp,rfl,-,-⟩,xy⟩
   rw [(U HLL).1]
   exact ⟨upd f 2 (.slice al N1 cp),by simp [upd,g1],(U xw).trans (xy.mono (U xw).size),zF (U HC) ⟨al,cp,rfl⟩⟩
  | 3,Y =>
   obtain rfl:=ya Y
   have g2:C10 b1 b2 w.heap.size (w.heap.size + 1) N1 N2 2 (f 2):=hC 2 (ye K 2 rfl)
   obtain ⟨al,cp,g2⟩:=g2
   clear K hC xi
   rw [if_pos (by rfl)];unfold Oper.wp;go_simp
   exact ⟨upd f 3 (H N1),by simp [upd,g2],U xw,zF (U HC) rfl⟩
  | 4,Y =>
   obtain rfl:=ya Y
   clear K hC xi
   rw [if_pos (by rfl)];unfold Oper.wp;go_simp
   exact ⟨upd f 4 (I (w.heap.size + 1) 2),by simp [upd],U xw,zF (U HC) rfl⟩
  | 5,Y =>
   obtain rfl:=ya Y
   have g4:C10 b1 b2 w.heap.size (w.heap.size + 1) N1 N2 4 (f 4):=hC 4 (ye K 4 rfl)
   simp only [C10] at g4
   have d2:=zc (U HR6) xi hp6 2 _ rfl
   clear K hC xi
   rw [if_pos (by rfl)];unfold Oper.wp;go_simp
   exact ⟨upd f 5 (.func (.func 170) #[I b2 0] #[]),by simp [upd,g4],U xw,zF (U HC) rfl⟩
  | 6,Y =>
   obtain rfl:=ya Y
   have g5:C10 b1 b2 w.heap.size (w.heap.size + 1) N1 N2 5 (f 5):=hC 5 (ye K 5 rfl)
   simp only [C10] at g5
   have ht:=zu (U vp) (xi.block _ hb2s)
   have HTV:=M ht
   clear K hC xi ht
   rw [if_pos (by rfl)];unfold Oper.wp;go_simp
   refine (levels_s b2 sd2 s2 V (U HTV) n2).mono ?_
   rintro e w4 ⟨v4,rfl,⟨al,cp,rfl,-,-⟩,xy⟩
   rw [(U HLL).2]
   exact ⟨upd f 6 (.slice al N2 cp),by simp [upd,g5],(U xw).trans (xy.mono (U xw).size),zF (U HC) ⟨al,cp,rfl⟩⟩
  | 7,Y =>
   obtain rfl:=ya Y
   have g6:C10 b1 b2 w.heap.size (w.heap.size + 1) N1 N2 6 (f 6):=hC 6 (ye K 6 rfl)
   obtain ⟨al,cp,g6⟩:=g6
   clear K hC xi
   rw [if_pos (by rfl)];unfold Oper.wp;go_simp
   exact ⟨upd f 7 (H N2),by simp [upd,g6],U xw,zF (U HC) rfl⟩
  | 8,Y =>
   obtain rfl:=ya Y
   have g3:C10 b1 b2 w.heap.size (w.heap.size + 1) N1 N2 3 (f 3):=hC 3 (ye K 3 rfl)
   have g7:C10 b1 b2 w.heap.size (w.heap.size + 1) N1 N2 7 (f 7):=hC 7 (ye K 7 rfl)
   simp only [C10] at g3
   simp only [C10] at g7
   have hwr8:IntKind.i64.wrap ((N1:Int) + N2) = (N1:Int) + N2:=by rw [IntKind.wrap_i64]; omega
   clear K hC xi
   rw [if_pos (by rfl)];unfold Oper.wp;go_simp
   exact ⟨upd f 8 (H ((N1:Int) + N2)),by simp [upd,g3,g7],U xw,zF (U HC) rfl⟩
  | 9,Y =>
   obtain rfl:=ya Y
   have g8:C10 b1 b2 w.heap.size (w.heap.size + 1) N1 N2 8 (f 8):=hC 8 (ye K 8 rfl)
   simp only [C10] at g8
   clear K hC xi
   rw [if_pos (by rfl)];unfold Oper.wp;go_simp
   exact ⟨upd f 9 (H ((N1:Int) + N2)),by simp [upd,g8],U xw,zF (U HC) rfl⟩
  | n + 10,Y=>simp at Y
def ofC (c:Cm):Ev:=⟨0,c,0,0,0,0,0⟩
def bS (c d:Cm):Bool:=(c.k == d.k) && ((c.s == d.s) && ((c.t == d.t) && ((c.l == d.l) && ((c.q == d.q) && ((c.i == d.i) && ((fbit c.p == fbit d.p) && decide (c.g.toList = d.g.toList)))))))
theorem eqVl (c d:Cm) (W:World):(binOp .eql 103 (vlV (ofC c)) (vlV (ofC d))).run Tryz.prog W = .ok (.bool (bS c d)) W:=by
 unfold vlV ofC
 simp only
 go_simp
 unfold bS
 by_cases Q:c.k = d.k
 ·by_cases D:c.s = d.s
  ·by_cases X:c.t = d.t
   ·by_cases h4:c.l = d.l
    ·by_cases h5:c.q = d.q
     ·by_cases h6:c.i = d.i
      ·by_cases h7:fbit c.p = fbit d.p
       ·by_cases h8:c.g.toList = d.g.toList
        ·simp [Q,D,X,h4,h5,h6,h7,h8]
        ·simp [Q,D,X,h4,h5,h6,h7,h8]
       ·have h7':¬ ((fbit c.p:Int) = fbit d.p):=by omega
        have h7b:(fbit c.p == fbit d.p) = false:=by simpa using h7
        rw [if_neg h7',h7b]
        simp [Q,D,X,h4,h5,h6]
      ·simp [Q,D,X,h4,h5,h6]
     ·simp [Q,D,X,h4,h5]
    ·simp [Q,D,X,h4]
   ·simp [Q,D,X]
  ·simp [Q,D]
 ·simp [Q]
theorem eqGd (c d:Cm) (W:World):(eqGuard .eql 103 (.tmp 7) (.tmp 10) (vlV (ofC c)) (vlV (ofC d))).run Tryz.prog W = .ok () W:=by
 unfold vlV ofC
 simp only
 go_simp
def CS (c d:Cm):Nat→Value→Prop
 | 0,v=>v = cmV c
 | 1,v=>v = evV (ofC c)
 | 2,v=>v = vlV (ofC c)
 | 3,v=>v = cmV d
 | 4,v=>v = evV (ofC d)
 | 5,v=>v = vlV (ofC d)
 | 6,v=>v = .bool (bS c d)
 | 7,v=>v = .bool (bS c d)
 | _,_=>True
theorem gu (c d:Cm) (w:World) :
  Calls Tryz.prog 185 #[cmV c,cmV d] w fun e w'=>e = ym (.bool (bS c d))∧yn w w':=by
 have xF:=zi w (Obj.cells c.vs.toArray 33)
 have ug:((w.alloc (Obj.cells c.vs.toArray 33)).alloc (Obj.cells d.vs.toArray 33)).heap.size = w.heap.size + 1 + 1:=by rw [zi,xF]
 have r0:=zc (zm w c.vs 33) (C:=w.heap.size + 1) ((Below.refl _ _).alloc (by rw [xF]; omega) (Obj.cells d.vs.toArray 33)) (by omega)
 have r1:=zm (w.alloc (Obj.cells c.vs.toArray 33)) d.vs 33
 rw [xF] at r1
 have xZ:Hid (yn w ((w.alloc (Obj.cells c.vs.toArray 33)).alloc (Obj.cells d.vs.toArray 33))):=(gZ _ _).alloc (by rw [xF]; omega) _
 have HX:Hid (_∧_):=⟨r0,r1⟩
 have vZ:=M ug
 clear r0 r1 xF ug
 unfold cmV
 go_enter Tryz.func185,Tryz.ntmps185
 go_wp2_with fail
 unfold Cm.vs at xZ HX vZ
 generalize hW:((w.alloc (O (List.toArray (yx c.k c.s c.t c.l c.q c.i c.p c.g)) 33)).alloc (O (List.toArray (yx d.k d.s d.t d.l d.q d.i d.p d.g)) 33)) = W at xZ HX vZ
 refine fu (RGrow W (fun f=>{ tmps:=#[cmV c,cmV d,yp w 0,I (w.heap.size + 1) 0,f 7,f 0,f 1,f 2,f 3,f 4,f 5,f 6],defers:=[] }) (CS c d)) (by kernel_rfl) ?_ ?_ ?_
 ·refine ⟨upd (fun _=>Z) 7 (.bool false),rfl,?_,fun j hj=>by rw [yJ] at hj; split at hj <;> simp at hj⟩
  rw [← hW]
  exact ⟨rfl,rfl,rfl,Nat.le_refl _,fun _ _=>rfl⟩
 ·rintro x hb V ⟨f,rfl,xi,hC⟩ hx xN
  have hall7:=zX xN hx (acyc _ (by kernel_rfl)) 7 (by simp)
  have e7:f 7 = .bool (bS c d):=hC 7 hall7
  simp only [e7]
  have xw:=M xi
  clear hC hx xN hall7 e7 xi
  go_wp2_with fail
  go_ret
  exact ⟨rfl,(U xZ).trans ((U xw).mono (U xZ).size)⟩
 ·rintro x hb V i o ⟨f,rfl,xi,hC⟩ hx Y xu K
  have xw:=M xi
  have HC:=M hC
  have hw0:w.heap.size < W.heap.size:=by rw [U vZ]; omega
  have kW:w.heap.size + 1 < W.heap.size:=by rw [U vZ]; omega
  match i,Y with
  | 0,Y =>
   obtain rfl:=ya Y
   obtain ⟨x0,x1,x2,x3,x4,x5,x6,x7⟩:=cm_cells (c:=c) (zc (U HX).1 xi hw0)
   simp only [Nat.zero_add] at x0 x1 x2 x3 x4 x5 x6 x7
   clear K hC xi
   rw [if_pos (by rfl)];unfold Oper.wp;go_simp
   exact ⟨upd f 0 (cmV c),by simp [upd,cmV],U xw,zF (U HC) rfl⟩
  | 1,Y =>
   obtain rfl:=ya Y
   have g0:f 0 = cmV c:=hC 0 (ye K 0 rfl)
   clear K hC xi
   rw [if_pos (by rfl)]
   unfold Oper.wp
   unfold cmV at g0
   go_simp
   exact ⟨upd f 1 (evV (ofC c)),by simp [upd,evV,ofC,cmV,g0],U xw,zF (U HC) rfl⟩
  | 2,Y =>
   obtain rfl:=ya Y
   have g1:f 1 = evV (ofC c):=hC 1 (ye K 1 rfl)
   clear K hC xi
   rw [if_pos (by rfl)];unfold Oper.wp;go_simp
   refine (gy (ofC c) V).mono ?_
   rintro e w4 ⟨rfl,xy⟩
   exact ⟨upd f 2 (vlV (ofC c)),by simp [upd,g1],(U xw).trans (xy.mono (U xw).size),zF (U HC) rfl⟩
  | 3,Y =>
   obtain rfl:=ya Y
   obtain ⟨x0,x1,x2,x3,x4,x5,x6,x7⟩:=cm_cells (c:=d) (zc (U HX).2 xi kW)
   simp only [Nat.zero_add] at x0 x1 x2 x3 x4 x5 x6 x7
   clear K hC xi
   rw [if_pos (by rfl)];unfold Oper.wp;go_simp
   exact ⟨upd f 3 (cmV d),by simp [upd,cmV],U xw,zF (U HC) rfl⟩
  | 4,Y =>
   obtain rfl:=ya Y
   have g0:f 3 = cmV d:=hC 3 (ye K 3 rfl)
   clear K hC xi
   rw [if_pos (by rfl)]
   unfold Oper.wp
   unfold cmV at g0
   go_simp
   exact ⟨upd f 4 (evV (ofC d)),by simp [upd,evV,ofC,cmV,g0],U xw,zF (U HC) rfl⟩
  | 5,Y =>
   obtain rfl:=ya Y
   have g1:f 4 = evV (ofC d):=hC 4 (ye K 4 rfl)
   clear K hC xi
   rw [if_pos (by rfl)];unfold Oper.wp;go_simp
   refine (gy (ofC d) V).mono ?_
   rintro e w4 ⟨rfl,xy⟩
   exact ⟨upd f 5 (vlV (ofC d)),by simp [upd,g1],(U xw).trans (xy.mono (U xw).size),zF (U HC) rfl⟩
  | 6,Y =>
   obtain rfl:=ya Y
   have g2:f 2 = vlV (ofC c):=hC 2 (ye K 2 rfl)
   have g5:f 5 = vlV (ofC d):=hC 5 (ye K 5 rfl)
   have he:=eqVl c d V
   have hg:=eqGd c d V
   clear K hC xi
   rw [if_pos (by rfl)];unfold Oper.wp;go_simp
   exact ⟨upd f 6 (.bool (bS c d)),by simp [upd,g2,g5],U xw,zF (U HC) rfl⟩
  | 7,Y =>
   obtain rfl:=ya Y
   have g6:f 6 = .bool (bS c d):=hC 6 (ye K 6 rfl)
   clear K hC xi
   rw [if_pos (by rfl)];unfold Oper.wp;go_simp
   exact ⟨upd f 7 (.bool (bS c d)),by simp [upd,g6],U xw,zF (U HC) rfl⟩
  | n + 8,Y=>simp at Y
theorem there1O {w:World} {b o n:Nat} (h:w.there b o n) (j:Nat) (hj:j < n):∃ v,w.cell? (J b (o + j)) = some v∧w.frozen? (J b (o + j)) = false:=by
 obtain ⟨v,hv⟩:=Option.isSome_iff_exists.1 (h j hj).1
 exact ⟨v,hv,(h j hj).2⟩
theorem takeR {α:Type} (l:List α) (k:Nat) (c:α) (h:l[k]? = some c):l.take (k + 1) = l.take k ++ [c]:=by
 obtain ⟨E,rfl⟩:=yH.1 h
 rw [List.take_succ_eq_append_getElem E]
theorem Tryz.infoOrder:(Tryz.prog.info? 65).map (fun i=>(i.zero,i.size,i.bytes)) = some (some (.agg (yw 0 0 0 0 0 ⟨#[]⟩).toArray),6,56):=by kernel_rfl
end Go.Proofs.YthhkapcbocgcoaaGreatDoor
