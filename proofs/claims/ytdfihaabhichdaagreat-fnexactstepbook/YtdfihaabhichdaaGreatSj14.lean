/-
  Two sides of a book, planted in whatever order: what holds of memory meanwhile; no function walked.
-/
import Derived.Test.YtdfihaabhichdaaGreatSj12
import Derived.Test.YtdfihaabhichdaaGreatSj13
import Derived.StillTailTactics
namespace Go.Proofs.YtdfihaabhichdaaGreat
open Go.RowKit
set_option linter.unusedVariables false

def zbX (b:Nat):List Value:=[.func (.func 131) #[.pointer (some ⟨b,0,none⟩)] #[],.func (.func 132) #[.pointer (some ⟨b,0,none⟩)] #[],.func (.func 133) #[.pointer (some ⟨b,0,none⟩)] #[]]
def zcp (b:Nat):List Value:=[.func (.func 135) #[.pointer (some ⟨b,0,none⟩)] #[],.func (.func 136) #[.pointer (some ⟨b,0,none⟩)] #[],.func (.func 137) #[.pointer (some ⟨b,0,none⟩)] #[]]
abbrev Tb (w:World) (b:Nat) (q:List Od):Prop:=zai 196 true w b 1 q
abbrev Ts (w:World) (b:Nat) (q:List Od):Prop:=zai 199 false w b 2 q
structure RW9 (W0:World) (BV:Value) (q1 q2:List Od) (x:List Bool) (v33 v34 v35 v36 v5 v6:Value) (b1 b2 p5 p6:Nat) (w:World):Prop where
  bel:Below W0.heap.size W0 w
  c33:x[0]? = some true→v33 = BV
  c35:x[2]? = some true→v35 = BV
  c34:x[1]? = some true→v34 = zbm b1∧Tb w b1 q1
  c36:x[3]? = some true→v36 = zbn b2∧Ts w b2 q2
  c5:x[4]? = some true→v5 = .pointer (some ⟨p5,0,none⟩)∧p5 < w.heap.size∧W0.heap.size ≤ p5∧w.there p5 0 3
  c6:x[5]? = some true→v6 = .pointer (some ⟨p6,0,none⟩)∧p6 < w.heap.size∧W0.heap.size ≤ p6∧w.there p6 0 3
  n15:x[1]? = some true→x[4]? = some true→b1 ≠ p5
  n16:x[1]? = some true→x[5]? = some true→b1 ≠ p6
  n25:x[3]? = some true→x[4]? = some true→b2 ≠ p5
  n26:x[3]? = some true→x[5]? = some true→b2 ≠ p6
  n56:x[4]? = some true→x[5]? = some true→p5 ≠ p6
  s5:x[6]? = some true→(x[1]? = some true∧x[4]? = some true)∧w.rangeAt p5 0 (zbX b1)
  s6:x[7]? = some true→(x[3]? = some true∧x[5]? = some true)∧w.rangeAt p6 0 (zcp b2)
section
variable {W0 w w':World} {BV:Value} {q1 q2:List Od} {x:List Bool} {v33 v34 v35 v36 v5 v6:Value} {b1 b2 p5 p6:Nat}
theorem rw9_grow (h:RW9 W0 BV q1 q2 x v33 v34 v35 v36 v5 v6 b1 b2 p5 p6 w) (hb:Below w.heap.size w w'):RW9 W0 BV q1 q2 x v33 v34 v35 v36 v5 v6 b1 b2 p5 p6 w' where
  bel:=h.bel.trans (hb.mono h.bel.size)
  c33:=h.c33
  c35:=h.c35
  c34:=fun hx=>⟨(h.c34 hx).1,zv (h.c34 hx).2 (hb.block _ (zM (h.c34 hx).2))⟩
  c36:=fun hx=>⟨(h.c36 hx).1,zv (h.c36 hx).2 (hb.block _ (zM (h.c36 hx).2))⟩
  c5:=fun hx=>⟨(h.c5 hx).1,Nat.lt_of_lt_of_le (h.c5 hx).2.1 hb.size,(h.c5 hx).2.2.1,zf (h.c5 hx).2.2.2 hb (h.c5 hx).2.1⟩
  c6:=fun hx=>⟨(h.c6 hx).1,Nat.lt_of_lt_of_le (h.c6 hx).2.1 hb.size,(h.c6 hx).2.2.1,zf (h.c6 hx).2.2.2 hb (h.c6 hx).2.1⟩
  n15:=h.n15
  n16:=h.n16
  n25:=h.n25
  n26:=h.n26
  n56:=h.n56
  s5:=fun hx=>⟨(h.s5 hx).1,zb (h.s5 hx).2 hb (h.c5 (h.s5 hx).1.2).2.1⟩
  s6:=fun hx=>⟨(h.s6 hx).1,zb (h.s6 hx).2 hb (h.c6 (h.s6 hx).1.2).2.1⟩
theorem gse {x:List Bool} {i j:Nat} (h:i ≠ j):(x.set i true)[j]? = x[j]?:=List.getElem?_set_ne h
theorem rw9_0 (h:RW9 W0 BV q1 q2 x v33 v34 v35 v36 v5 v6 b1 b2 p5 p6 w):RW9 W0 BV q1 q2 (x.set 0 true) BV v34 v35 v36 v5 v6 b1 b2 p5 p6 w:=by
  constructor <;> try simp only [gse (show 0 ≠ 1 by decide),gse (show 0 ≠ 2 by decide),gse (show 0 ≠ 3 by decide),gse (show 0 ≠ 4 by decide),gse (show 0 ≠ 5 by decide),gse (show 0 ≠ 6 by decide),gse (show 0 ≠ 7 by decide)]
  · exact h.bel
  · exact fun _=>by first | rfl | trivial
  · exact h.c35
  · exact h.c34
  · exact h.c36
  · exact h.c5
  · exact h.c6
  · exact h.n15
  · exact h.n16
  · exact h.n25
  · exact h.n26
  · exact h.n56
  · exact h.s5
  · exact h.s6
theorem rw9_2 (h:RW9 W0 BV q1 q2 x v33 v34 v35 v36 v5 v6 b1 b2 p5 p6 w):RW9 W0 BV q1 q2 (x.set 2 true) v33 v34 BV v36 v5 v6 b1 b2 p5 p6 w:=by
  constructor <;> try simp only [gse (show 2 ≠ 0 by decide),gse (show 2 ≠ 1 by decide),gse (show 2 ≠ 3 by decide),gse (show 2 ≠ 4 by decide),gse (show 2 ≠ 5 by decide),gse (show 2 ≠ 6 by decide),gse (show 2 ≠ 7 by decide)]
  · exact h.bel
  · exact h.c33
  · exact fun _=>by first | rfl | trivial
  · exact h.c34
  · exact h.c36
  · exact h.c5
  · exact h.c6
  · exact h.n15
  · exact h.n16
  · exact h.n25
  · exact h.n26
  · exact h.n56
  · exact h.s5
  · exact h.s6
theorem rw9_1 (h:RW9 W0 BV q1 q2 x v33 v34 v35 v36 v5 v6 b1 b2 p5 p6 w) (h6:x[6]? ≠ some true) {b:Nat} (hb:Below w.heap.size w w') (hle:w.heap.size ≤ b) (ht:Tb w' b q1) :
    RW9 W0 BV q1 q2 (x.set 1 true) v33 (zbm b) v35 v36 v5 v6 b b2 p5 p6 w':=by
  have g:=rw9_grow h hb
  constructor <;> try simp only [gse (show 1 ≠ 0 by decide),gse (show 1 ≠ 2 by decide),gse (show 1 ≠ 3 by decide),gse (show 1 ≠ 4 by decide),gse (show 1 ≠ 5 by decide),gse (show 1 ≠ 6 by decide),gse (show 1 ≠ 7 by decide)]
  · exact g.bel
  · exact g.c33
  · exact g.c35
  · exact fun _=>⟨by first | rfl | trivial,ht⟩
  · exact g.c36
  · exact g.c5
  · exact g.c6
  · exact fun _ h4=>by have:=(h.c5 h4).2.1; omega
  · exact fun _ h5=>by have:=(h.c6 h5).2.1; omega
  · exact g.n25
  · exact g.n26
  · exact g.n56
  · exact fun hx=>absurd hx h6
  · exact g.s6
theorem rw9_3 (h:RW9 W0 BV q1 q2 x v33 v34 v35 v36 v5 v6 b1 b2 p5 p6 w) (h7:x[7]? ≠ some true) {b:Nat} (hb:Below w.heap.size w w') (hle:w.heap.size ≤ b) (ht:Ts w' b q2) :
    RW9 W0 BV q1 q2 (x.set 3 true) v33 v34 v35 (zbn b) v5 v6 b1 b p5 p6 w':=by
  have g:=rw9_grow h hb
  constructor <;> try simp only [gse (show 3 ≠ 0 by decide),gse (show 3 ≠ 1 by decide),gse (show 3 ≠ 2 by decide),gse (show 3 ≠ 4 by decide),gse (show 3 ≠ 5 by decide),gse (show 3 ≠ 6 by decide),gse (show 3 ≠ 7 by decide)]
  · exact g.bel
  · exact g.c33
  · exact g.c35
  · exact g.c34
  · exact fun _=>⟨by first | rfl | trivial,ht⟩
  · exact g.c5
  · exact g.c6
  · exact g.n15
  · exact g.n16
  · exact fun _ h4=>by have:=(h.c5 h4).2.1; omega
  · exact fun _ h5=>by have:=(h.c6 h5).2.1; omega
  · exact g.n56
  · exact g.s5
  · exact fun hx=>absurd hx h7
theorem zI (w:World) (cs:List Value) (t:TypeId):(w.alloc (Obj.cells cs.toArray t)).there w.heap.size 0 cs.length:=zaj (heap_alloc_new w _) (by simp)
theorem rw9_4 (h:RW9 W0 BV q1 q2 x v33 v34 v35 v36 v5 v6 b1 b2 p5 p6 w) (h6:x[6]? ≠ some true) (t:TypeId) :
    RW9 W0 BV q1 q2 (x.set 4 true) v33 v34 v35 v36 (.pointer (some ⟨w.heap.size,0,none⟩)) v6 b1 b2 w.heap.size p6 (w.alloc (Obj.cells #[.nilFunc,.nilFunc,.nilFunc] t)):=by
  have g:=rw9_grow h ((Below.refl _ _).alloc (Nat.le_refl _) (Obj.cells #[.nilFunc,.nilFunc,.nilFunc] t))
  constructor <;> try simp only [gse (show 4 ≠ 0 by decide),gse (show 4 ≠ 1 by decide),gse (show 4 ≠ 2 by decide),gse (show 4 ≠ 3 by decide),gse (show 4 ≠ 5 by decide),gse (show 4 ≠ 6 by decide),gse (show 4 ≠ 7 by decide)]
  · exact g.bel
  · exact g.c33
  · exact g.c35
  · exact g.c34
  · exact g.c36
  · exact fun _=>⟨by first | rfl | trivial,by rw [ze]; omega,h.bel.size,zI w [.nilFunc,.nilFunc,.nilFunc] t⟩
  · exact g.c6
  · exact fun h1 _=>by have:=zM (h.c34 h1).2; omega
  · exact g.n16
  · exact fun h3 _=>by have:=zM (h.c36 h3).2; omega
  · exact g.n26
  · exact fun _ h5=>by have:=(h.c6 h5).2.1; omega
  · exact fun hx=>absurd hx h6
  · exact g.s6
theorem rw9_5 (h:RW9 W0 BV q1 q2 x v33 v34 v35 v36 v5 v6 b1 b2 p5 p6 w) (h7:x[7]? ≠ some true) (t:TypeId) :
    RW9 W0 BV q1 q2 (x.set 5 true) v33 v34 v35 v36 v5 (.pointer (some ⟨w.heap.size,0,none⟩)) b1 b2 p5 w.heap.size (w.alloc (Obj.cells #[.nilFunc,.nilFunc,.nilFunc] t)):=by
  have g:=rw9_grow h ((Below.refl _ _).alloc (Nat.le_refl _) (Obj.cells #[.nilFunc,.nilFunc,.nilFunc] t))
  constructor <;> try simp only [gse (show 5 ≠ 0 by decide),gse (show 5 ≠ 1 by decide),gse (show 5 ≠ 2 by decide),gse (show 5 ≠ 3 by decide),gse (show 5 ≠ 4 by decide),gse (show 5 ≠ 6 by decide),gse (show 5 ≠ 7 by decide)]
  · exact g.bel
  · exact g.c33
  · exact g.c35
  · exact g.c34
  · exact g.c36
  · exact g.c5
  · exact fun _=>⟨by first | rfl | trivial,by rw [ze]; omega,h.bel.size,zI w [.nilFunc,.nilFunc,.nilFunc] t⟩
  · exact g.n15
  · exact fun h1 _=>by have:=zM (h.c34 h1).2; omega
  · exact g.n25
  · exact fun h3 _=>by have:=zM (h.c36 h3).2; omega
  · exact fun h4 _=>by have:=(h.c5 h4).2.1; omega
  · exact g.s5
  · exact fun hx=>absurd hx h7
theorem zbu {p:Nat} {F0 F1 F2:Value} {k:Nat} (hk:k ≠ p):(((w.setCell ⟨p,0,none⟩ F0).setCell ⟨p,1,none⟩ F1).setCell ⟨p,2,none⟩ F2).heap[k]? = w.heap[k]? :=
  (Below.heap_setCell _ _ _ _ hk).trans ((Below.heap_setCell _ _ _ _ hk).trans (Below.heap_setCell _ _ _ _ hk))
theorem set3_size {p:Nat} {F0 F1 F2:Value}:(((w.setCell ⟨p,0,none⟩ F0).setCell ⟨p,1,none⟩ F1).setCell ⟨p,2,none⟩ F2).heap.size = w.heap.size:=by simp [World.setCell]
theorem set3_range {p:Nat} {F0 F1 F2:Value} (ht:w.there p 0 3):(((w.setCell ⟨p,0,none⟩ F0).setCell ⟨p,1,none⟩ F1).setCell ⟨p,2,none⟩ F2).rangeAt p 0 [F0,F1,F2]:=World.rangeAt_setCells_same w p 0 [F0,F1,F2] (fun j hj=>ht j hj)
theorem zcv {p b o n:Nat} {F0 F1 F2:Value} (ht:w.there b o n):(((w.setCell ⟨p,0,none⟩ F0).setCell ⟨p,1,none⟩ F1).setCell ⟨p,2,none⟩ F2).there b o n:=World.there_setCells ht p 0 [F0,F1,F2]
theorem set3_below {p:Nat} {F0 F1 F2:Value} (h:Below W0.heap.size W0 w) (hp:W0.heap.size ≤ p):Below W0.heap.size W0 (((w.setCell ⟨p,0,none⟩ F0).setCell ⟨p,1,none⟩ F1).setCell ⟨p,2,none⟩ F2) :=
  ((h.setCell (p:=⟨p,0,none⟩) hp F0).setCell (p:=⟨p,1,none⟩) hp F1).setCell (p:=⟨p,2,none⟩) hp F2
theorem range_block {b o:Nat} {cs:List Value} (h:w.rangeAt b o cs) (hb:w'.heap[b]? = w.heap[b]?):w'.rangeAt b o cs:=fun j v hv=>(World.cell?_of_block (a:=⟨b,o + j,none⟩) hb).trans (h j v hv)
theorem rw9_6 (h:RW9 W0 BV q1 q2 x v33 v34 v35 v36 v5 v6 b1 b2 p5 p6 w) (h1:x[1]? = some true) (h3:x[3]? = some true) (h4:x[4]? = some true) (h5:x[5]? = some true) {F0 F1 F2:Value} (hF:zbX b1 = [F0,F1,F2]) :
    RW9 W0 BV q1 q2 (x.set 6 true) v33 v34 v35 v36 v5 v6 b1 b2 p5 p6 (((w.setCell ⟨p5,0,none⟩ F0).setCell ⟨p5,1,none⟩ F1).setCell ⟨p5,2,none⟩ F2):=by
  obtain ⟨e1,e2,e3,e4⟩:=h.c5 h4
  obtain ⟨f1,f2,f3,f4⟩:=h.c6 h5
  constructor <;> try simp only [gse (show 6 ≠ 0 by decide),gse (show 6 ≠ 1 by decide),gse (show 6 ≠ 2 by decide),gse (show 6 ≠ 3 by decide),gse (show 6 ≠ 4 by decide),gse (show 6 ≠ 5 by decide),gse (show 6 ≠ 7 by decide)]
  · exact set3_below h.bel e3
  · exact h.c33
  · exact h.c35
  · exact fun _=>⟨(h.c34 h1).1,zv (h.c34 h1).2 (zbu (h.n15 h1 h4))⟩
  · exact fun _=>⟨(h.c36 h3).1,zv (h.c36 h3).2 (zbu (h.n25 h3 h4))⟩
  · exact fun _=>⟨e1,by rw [set3_size]; exact e2,e3,zcv e4⟩
  · exact fun _=>⟨f1,by rw [set3_size]; exact f2,f3,zcv f4⟩
  · exact h.n15
  · exact h.n16
  · exact h.n25
  · exact h.n26
  · exact h.n56
  · exact fun _=>⟨⟨h1,h4⟩,by rw [hF]; exact set3_range e4⟩
  · exact fun hx=>⟨(h.s6 hx).1,range_block (h.s6 hx).2 (zbu (Ne.symm (h.n56 h4 h5)))⟩
theorem rw9_7 (h:RW9 W0 BV q1 q2 x v33 v34 v35 v36 v5 v6 b1 b2 p5 p6 w) (h1:x[1]? = some true) (h3:x[3]? = some true) (h4:x[4]? = some true) (h5:x[5]? = some true) {F0 F1 F2:Value} (hF:zcp b2 = [F0,F1,F2]) :
    RW9 W0 BV q1 q2 (x.set 7 true) v33 v34 v35 v36 v5 v6 b1 b2 p5 p6 (((w.setCell ⟨p6,0,none⟩ F0).setCell ⟨p6,1,none⟩ F1).setCell ⟨p6,2,none⟩ F2):=by
  obtain ⟨e1,e2,e3,e4⟩:=h.c5 h4
  obtain ⟨f1,f2,f3,f4⟩:=h.c6 h5
  constructor <;> try simp only [gse (show 7 ≠ 0 by decide),gse (show 7 ≠ 1 by decide),gse (show 7 ≠ 2 by decide),gse (show 7 ≠ 3 by decide),gse (show 7 ≠ 4 by decide),gse (show 7 ≠ 5 by decide),gse (show 7 ≠ 6 by decide)]
  · exact set3_below h.bel f3
  · exact h.c33
  · exact h.c35
  · exact fun _=>⟨(h.c34 h1).1,zv (h.c34 h1).2 (zbu (h.n16 h1 h5))⟩
  · exact fun _=>⟨(h.c36 h3).1,zv (h.c36 h3).2 (zbu (h.n26 h3 h5))⟩
  · exact fun _=>⟨e1,by rw [set3_size]; exact e2,e3,zcv e4⟩
  · exact fun _=>⟨f1,by rw [set3_size]; exact f2,f3,zcv f4⟩
  · exact h.n15
  · exact h.n16
  · exact h.n25
  · exact h.n26
  · exact h.n56
  · exact fun hx=>⟨(h.s5 hx).1,range_block (h.s5 hx).2 (zbu (h.n56 h4 h5))⟩
  · exact fun _=>⟨⟨h3,h5⟩,by rw [hF]; exact set3_range f4⟩
end
end Go.Proofs.YtdfihaabhichdaaGreat
namespace Go.Proofs.YtdfihaabhichdaaGreat
open Go.RowKit
set_option linter.unusedVariables false

structure Ev where
 kind:Int
 cmd:Cm
 id:Int
 other:Int
 qty:Int
 price:Int
 reason:Int
def cmV (c:Cm):Value:=.agg #[.int .i64 c.k,.int .i64 c.s,.int .i64 c.t,.int .i64 c.l,.int .i64 c.q,.int .i64 c.i,.float .f64 c.p,.string c.g]
def evV (e:Ev):Value:=.agg #[.int .i64 e.kind,.int .i64 e.cmd.k,.int .i64 e.cmd.s,.int .i64 e.cmd.t,.int .i64 e.cmd.l,.int .i64 e.cmd.q,.int .i64 e.cmd.i,.float .f64 e.cmd.p,.string e.cmd.g,.int .i64 e.id,.int .i64 e.other,.int .i64 e.qty,.int .i64 e.price,.int .i64 e.reason]
def vlV (e:Ev):Value:=.agg #[.int .i64 e.kind,.int .i64 e.id,.int .i64 e.other,.int .i64 e.qty,.int .i64 e.price,.int .i64 e.reason,.int .i64 e.cmd.k,.int .i64 e.cmd.s,.int .i64 e.cmd.t,.int .i64 e.cmd.l,.int .i64 e.cmd.q,.int .i64 e.cmd.i,.int .u64 (fbit e.cmd.p),.string e.cmd.g]
set_option maxRecDepth 100000 in
set_option maxHeartbeats 1600000 in
theorem valueOf_any (e:Ev) (w:World) :
  Calls Tryz.prog 128 #[evV e] w fun x w'=>x = .returned (vlV e)∧Below w.heap.size w w':=by
 obtain ⟨kind,⟨k,s,t,l,q,i,p,g⟩,id,other,qty,price,reason⟩:=e
 unfold evV vlV
 have hsf:=sfl
 simp only
 generalize hfb:fbit p = fp
 have HFB:=hide (fun W=>hfb ▸ floatBits_any p W)
 clear hfb
 have hs1:(w.alloc (Obj.cells #[.int .i64 kind,.int .i64 k,.int .i64 s,.int .i64 t,.int .i64 l,.int .i64 q,.int .i64 i,.float .f64 p,.string g,.int .i64 id,.int .i64 other,.int .i64 qty,.int .i64 price,.int .i64 reason] 80)).heap.size = w.heap.size + 1:=ze _ _
 have hs2:((w.alloc (Obj.cells #[.int .i64 kind,.int .i64 k,.int .i64 s,.int .i64 t,.int .i64 l,.int .i64 q,.int .i64 i,.float .f64 p,.string g,.int .i64 id,.int .i64 other,.int .i64 qty,.int .i64 price,.int .i64 reason] 80)).alloc (Obj.cells #[.int .i64 0,.int .i64 0,.int .i64 0,.int .i64 0,.int .i64 0,.int .i64 0,.int .i64 0,.int .i64 0,.int .i64 0,.int .i64 0,.int .i64 0,.int .i64 0,.int .u64 0,.string ⟨#[]⟩] 182)).heap.size = w.heap.size + 2:=by rw [ze,hs1]
 have hs3:(((w.alloc (Obj.cells #[.int .i64 kind,.int .i64 k,.int .i64 s,.int .i64 t,.int .i64 l,.int .i64 q,.int .i64 i,.float .f64 p,.string g,.int .i64 id,.int .i64 other,.int .i64 qty,.int .i64 price,.int .i64 reason] 80)).alloc (Obj.cells #[.int .i64 0,.int .i64 0,.int .i64 0,.int .i64 0,.int .i64 0,.int .i64 0,.int .i64 0,.int .i64 0,.int .i64 0,.int .i64 0,.int .i64 0,.int .i64 0,.int .u64 0,.string ⟨#[]⟩] 182)).alloc (Obj.cells #[.int .i64 k,.int .i64 s,.int .i64 t,.int .i64 l,.int .i64 q,.int .i64 i,.float .f64 p,.string g] 37)).heap.size = w.heap.size + 3:=by rw [ze,hs2]
 have b1:Below (w.heap.size + 1) (w.alloc (Obj.cells #[.int .i64 kind,.int .i64 k,.int .i64 s,.int .i64 t,.int .i64 l,.int .i64 q,.int .i64 i,.float .f64 p,.string g,.int .i64 id,.int .i64 other,.int .i64 qty,.int .i64 price,.int .i64 reason] 80)) (((w.alloc (Obj.cells #[.int .i64 kind,.int .i64 k,.int .i64 s,.int .i64 t,.int .i64 l,.int .i64 q,.int .i64 i,.float .f64 p,.string g,.int .i64 id,.int .i64 other,.int .i64 qty,.int .i64 price,.int .i64 reason] 80)).alloc (Obj.cells #[.int .i64 0,.int .i64 0,.int .i64 0,.int .i64 0,.int .i64 0,.int .i64 0,.int .i64 0,.int .i64 0,.int .i64 0,.int .i64 0,.int .i64 0,.int .i64 0,.int .u64 0,.string ⟨#[]⟩] 182)).alloc (Obj.cells #[.int .i64 k,.int .i64 s,.int .i64 t,.int .i64 l,.int .i64 q,.int .i64 i,.float .f64 p,.string g] 37)):=(((Below.refl _ _).alloc (by rw [hs1]; omega) _).alloc (by rw [hs2]; omega) _)
 have b2:Below (w.heap.size + 2) ((w.alloc (Obj.cells #[.int .i64 kind,.int .i64 k,.int .i64 s,.int .i64 t,.int .i64 l,.int .i64 q,.int .i64 i,.float .f64 p,.string g,.int .i64 id,.int .i64 other,.int .i64 qty,.int .i64 price,.int .i64 reason] 80)).alloc (Obj.cells #[.int .i64 0,.int .i64 0,.int .i64 0,.int .i64 0,.int .i64 0,.int .i64 0,.int .i64 0,.int .i64 0,.int .i64 0,.int .i64 0,.int .i64 0,.int .i64 0,.int .u64 0,.string ⟨#[]⟩] 182)) (((w.alloc (Obj.cells #[.int .i64 kind,.int .i64 k,.int .i64 s,.int .i64 t,.int .i64 l,.int .i64 q,.int .i64 i,.float .f64 p,.string g,.int .i64 id,.int .i64 other,.int .i64 qty,.int .i64 price,.int .i64 reason] 80)).alloc (Obj.cells #[.int .i64 0,.int .i64 0,.int .i64 0,.int .i64 0,.int .i64 0,.int .i64 0,.int .i64 0,.int .i64 0,.int .i64 0,.int .i64 0,.int .i64 0,.int .i64 0,.int .u64 0,.string ⟨#[]⟩] 182)).alloc (Obj.cells #[.int .i64 k,.int .i64 s,.int .i64 t,.int .i64 l,.int .i64 q,.int .i64 i,.float .f64 p,.string g] 37)):=((Below.refl _ _).alloc (by rw [hs2]; omega) _)
 have r1:=zb (zh w [.int .i64 kind,.int .i64 k,.int .i64 s,.int .i64 t,.int .i64 l,.int .i64 q,.int .i64 i,.float .f64 p,.string g,.int .i64 id,.int .i64 other,.int .i64 qty,.int .i64 price,.int .i64 reason] 80) b1 (by omega)
 have t2:=zI (w.alloc (Obj.cells #[.int .i64 kind,.int .i64 k,.int .i64 s,.int .i64 t,.int .i64 l,.int .i64 q,.int .i64 i,.float .f64 p,.string g,.int .i64 id,.int .i64 other,.int .i64 qty,.int .i64 price,.int .i64 reason] 80)) [.int .i64 0,.int .i64 0,.int .i64 0,.int .i64 0,.int .i64 0,.int .i64 0,.int .i64 0,.int .i64 0,.int .i64 0,.int .i64 0,.int .i64 0,.int .i64 0,.int .u64 0,.string ⟨#[]⟩] 182
 have r3:=zh ((w.alloc (Obj.cells #[.int .i64 kind,.int .i64 k,.int .i64 s,.int .i64 t,.int .i64 l,.int .i64 q,.int .i64 i,.float .f64 p,.string g,.int .i64 id,.int .i64 other,.int .i64 qty,.int .i64 price,.int .i64 reason] 80)).alloc (Obj.cells #[.int .i64 0,.int .i64 0,.int .i64 0,.int .i64 0,.int .i64 0,.int .i64 0,.int .i64 0,.int .i64 0,.int .i64 0,.int .i64 0,.int .i64 0,.int .i64 0,.int .u64 0,.string ⟨#[]⟩] 182)) [.int .i64 k,.int .i64 s,.int .i64 t,.int .i64 l,.int .i64 q,.int .i64 i,.float .f64 p,.string g] 37
 rw [hs1] at t2
 rw [hs2] at r3
 have t2':=zf t2 b2 (by omega)
 have HB3:Hid (Below w.heap.size w (((w.alloc (Obj.cells #[.int .i64 kind,.int .i64 k,.int .i64 s,.int .i64 t,.int .i64 l,.int .i64 q,.int .i64 i,.float .f64 p,.string g,.int .i64 id,.int .i64 other,.int .i64 qty,.int .i64 price,.int .i64 reason] 80)).alloc (Obj.cells #[.int .i64 0,.int .i64 0,.int .i64 0,.int .i64 0,.int .i64 0,.int .i64 0,.int .i64 0,.int .i64 0,.int .i64 0,.int .i64 0,.int .i64 0,.int .i64 0,.int .u64 0,.string ⟨#[]⟩] 182)).alloc (Obj.cells #[.int .i64 k,.int .i64 s,.int .i64 t,.int .i64 l,.int .i64 q,.int .i64 i,.float .f64 p,.string g] 37))):=(((Below.refl _ _).alloc (Nat.le_refl _) _).alloc (by rw [hs1]; omega) _).alloc (by rw [hs2]; omega) _
 have HX:Hid (_∧_∧_):=⟨r1,t2',r3⟩
 clear r1 t2 t2' r3 b1 b2 hs1 hs2 hs3
 go_enter Tryz.func128,Tryz.ntmps128
 go_wp2_with fail
 generalize (((w.alloc (Obj.cells #[.int .i64 kind,.int .i64 k,.int .i64 s,.int .i64 t,.int .i64 l,.int .i64 q,.int .i64 i,.float .f64 p,.string g,.int .i64 id,.int .i64 other,.int .i64 qty,.int .i64 price,.int .i64 reason] 80)).alloc (Obj.cells #[.int .i64 0,.int .i64 0,.int .i64 0,.int .i64 0,.int .i64 0,.int .i64 0,.int .i64 0,.int .i64 0,.int .i64 0,.int .i64 0,.int .i64 0,.int .i64 0,.int .u64 0,.string ⟨#[]⟩] 182)).alloc (Obj.cells #[.int .i64 k,.int .i64 s,.int .i64 t,.int .i64 l,.int .i64 q,.int .i64 i,.float .f64 p,.string g] 37)) = WW at HB3 HX ⊢
 obtain ⟨hr1,ht2,hr3⟩:=za HX
 have x0:=hr1 0 _ rfl
 have x1:=hr1 1 _ rfl
 have x2:=hr1 2 _ rfl
 have x3:=hr1 3 _ rfl
 have x4:=hr1 4 _ rfl
 have x5:=hr1 5 _ rfl
 have x6:=hr1 6 _ rfl
 have x7:=hr1 7 _ rfl
 have x8:=hr1 8 _ rfl
 have x9:=hr1 9 _ rfl
 have x10:=hr1 10 _ rfl
 have x11:=hr1 11 _ rfl
 have x12:=hr1 12 _ rfl
 have x13:=hr1 13 _ rfl
 have y0:=hr3 0 _ rfl
 have y1:=hr3 1 _ rfl
 have y2:=hr3 2 _ rfl
 have y3:=hr3 3 _ rfl
 have y4:=hr3 4 _ rfl
 have y5:=hr3 5 _ rfl
 have y6:=hr3 6 _ rfl
 have y7:=hr3 7 _ rfl
 simp only [Nat.zero_add] at x0 x1 x2 x3 x4 x5 x6 x7 x8 x9 x10 x11 x12 x13 y0 y1 y2 y3 y4 y5 y6 y7
 obtain ⟨v0,z0,f0⟩:=zK ht2 0 (by decide)
 obtain ⟨v1,z1,f1⟩:=zK ht2 1 (by decide)
 obtain ⟨v2,z2,f2⟩:=zK ht2 2 (by decide)
 obtain ⟨v3,z3,f3⟩:=zK ht2 3 (by decide)
 obtain ⟨v4,z4,f4⟩:=zK ht2 4 (by decide)
 obtain ⟨v5,z5,f5⟩:=zK ht2 5 (by decide)
 obtain ⟨v6,z6,f6⟩:=zK ht2 6 (by decide)
 obtain ⟨v7,z7,f7⟩:=zK ht2 7 (by decide)
 obtain ⟨v8,z8,f8⟩:=zK ht2 8 (by decide)
 obtain ⟨v9,z9,f9⟩:=zK ht2 9 (by decide)
 obtain ⟨v10,z10,f10⟩:=zK ht2 10 (by decide)
 obtain ⟨v11,z11,f11⟩:=zK ht2 11 (by decide)
 obtain ⟨v12,z12,f12⟩:=zK ht2 12 (by decide)
 obtain ⟨v13,z13,f13⟩:=zK ht2 13 (by decide)
 simp only [Nat.zero_add] at z0 f0 z1 f1 z2 f2 z3 f3 z4 f4 z5 f5 z6 f6 z7 f7 z8 f8 z9 f9 z10 f10 z11 f11 z12 f12 z13 f13
 have HT:=hide ht2
 clear hr1 ht2 hr3 HX
 refine zbr 30 (by kernel_rfl) (by kernel_rfl) ?_
 simp only [List.take_succ_cons,List.take_zero,List.drop_succ_cons,List.drop_zero]
 repeat still_step
 still_call (za HFB _)
 repeat still_step
 refine wpStill_nil ?_
 go_wp2_with fail
 change bodyPost _ _ _ _ _ (WW.setCells (w.heap.size + 1) 0 [.int .i64 kind,.int .i64 id,.int .i64 other,.int .i64 qty,.int .i64 price,.int .i64 reason,.int .i64 k,.int .i64 s,.int .i64 t,.int .i64 l,.int .i64 q,.int .i64 i,.int .u64 fp,.string g]).drew
 have HRX:=hide (World.rangeAt_setCells_same WW (w.heap.size + 1) 0 [.int .i64 kind,.int .i64 id,.int .i64 other,.int .i64 qty,.int .i64 price,.int .i64 reason,.int .i64 k,.int .i64 s,.int .i64 t,.int .i64 l,.int .i64 q,.int .i64 i,.int .u64 fp,.string g] (fun j hj=>za HT j hj))
 have HBX:=hide (zC (w.heap.size + 1) (by omega) [.int .i64 kind,.int .i64 id,.int .i64 other,.int .i64 qty,.int .i64 price,.int .i64 reason,.int .i64 k,.int .i64 s,.int .i64 t,.int .i64 l,.int .i64 q,.int .i64 i,.int .u64 fp,.string g] 0 WW (za HB3))
 generalize WW.setCells (w.heap.size + 1) 0 [.int .i64 kind,.int .i64 id,.int .i64 other,.int .i64 qty,.int .i64 price,.int .i64 reason,.int .i64 k,.int .i64 s,.int .i64 t,.int .i64 l,.int .i64 q,.int .i64 i,.int .u64 fp,.string g] = WE at HRX HBX ⊢
 have d0:WE.drew.cell? ⟨w.heap.size + 1,0,none⟩ = some (.int .i64 kind):=za HRX 0 _ rfl
 have d1:WE.drew.cell? ⟨w.heap.size + 1,1,none⟩ = some (.int .i64 id):=za HRX 1 _ rfl
 have d2:WE.drew.cell? ⟨w.heap.size + 1,2,none⟩ = some (.int .i64 other):=za HRX 2 _ rfl
 have d3:WE.drew.cell? ⟨w.heap.size + 1,3,none⟩ = some (.int .i64 qty):=za HRX 3 _ rfl
 have d4:WE.drew.cell? ⟨w.heap.size + 1,4,none⟩ = some (.int .i64 price):=za HRX 4 _ rfl
 have d5:WE.drew.cell? ⟨w.heap.size + 1,5,none⟩ = some (.int .i64 reason):=za HRX 5 _ rfl
 have d6:WE.drew.cell? ⟨w.heap.size + 1,6,none⟩ = some (.int .i64 k):=za HRX 6 _ rfl
 have d7:WE.drew.cell? ⟨w.heap.size + 1,7,none⟩ = some (.int .i64 s):=za HRX 7 _ rfl
 have d8:WE.drew.cell? ⟨w.heap.size + 1,8,none⟩ = some (.int .i64 t):=za HRX 8 _ rfl
 have d9:WE.drew.cell? ⟨w.heap.size + 1,9,none⟩ = some (.int .i64 l):=za HRX 9 _ rfl
 have d10:WE.drew.cell? ⟨w.heap.size + 1,10,none⟩ = some (.int .i64 q):=za HRX 10 _ rfl
 have d11:WE.drew.cell? ⟨w.heap.size + 1,11,none⟩ = some (.int .i64 i):=za HRX 11 _ rfl
 have d12:WE.drew.cell? ⟨w.heap.size + 1,12,none⟩ = some (.int .u64 fp):=za HRX 12 _ rfl
 have d13:WE.drew.cell? ⟨w.heap.size + 1,13,none⟩ = some (.string g):=za HRX 13 _ rfl
 try simp only [Exit.inBlock,Exit.then]
 refine bodyPost_ret (by simp [results,Tryz.results128,go_sem,d0,d1,d2,d3,d4,d5,d6,d7,d8,d9,d10,d11,d12,d13]; try rfl) rfl ?_
 exact ⟨rfl,(za HBX).drew⟩
end Go.Proofs.YtdfihaabhichdaaGreat
namespace Go.Proofs.YtdfihaabhichdaaGreat
open Go.RowKit
set_option linter.unusedVariables false

theorem insT_len (s:Bool) (k:Int):∀ T:List Int,(insT s k T).length ≤ T.length + 1
  | []=>by simp [insT]
  | a :: r=>by
    have:=insT_len s k r
    rw [insT]; split
    · simp
    · split <;> simp <;> omega
theorem tks_len (s:Bool):∀ seq:List Od,(tks s seq).length ≤ seq.length
  | []=>by simp [tks]
  | o :: r=>by
    have h1:=insT_len s o.ticks (tks s r)
    have h2:=tks_len s r
    rw [tks]; simp; omega
def backB:Nat→List Oper→Bool
  | _,[]=>true
  | i,o :: r=>o.after.toList.all (fun e=>decide (e.on < i)) && backB (i + 1) r
theorem back_spec:∀ (l:List Oper) (n:Nat),backB n l = true→∀ (i:Nat) (o:Oper),l[i]? = some o→∀ e ∈ o.after,e.on < n + i
  | [],_,_,i,o,h,_,_=>by simp at h
  | a :: r,n,hb,0,o,h,e,he=>by
    simp at h; subst h
    simp only [backB,Bool.and_eq_true,List.all_eq_true,decide_eq_true_eq] at hb
    exact hb.1 e (by simpa using he)
  | a :: r,n,hb,i + 1,o,h,e,he=>by
    simp only [backB,Bool.and_eq_true] at hb
    have:=back_spec r (n + 1) hb.2 i o (by simpa using h) e he
    omega
theorem acyc (l:List Oper) (h:backB 0 l = true):∀ (i:Nat) (o:Oper),l[i]? = some o→∀ e ∈ o.after,e.on < i:=fun i o ho e he=>by
  have:=back_spec l 0 h i o ho e he; omega
def C10 (b1 b2 p5 p6 N1 N2:Nat):Nat→Value→Prop
  | 0,v=>v = .pointer (some ⟨p5,2,none⟩)
  | 1,v=>v = .func (.func 133) #[.pointer (some ⟨b1,0,none⟩)] #[]
  | 2,v=>∃ a c,v = .slice a N1 c
  | 3,v=>v = .int .i64 N1
  | 4,v=>v = .pointer (some ⟨p6,2,none⟩)
  | 5,v=>v = .func (.func 137) #[.pointer (some ⟨b2,0,none⟩)] #[]
  | 6,v=>∃ a c,v = .slice a N2 c
  | 7,v=>v = .int .i64 N2
  | 8,v=>v = .int .i64 ((N1:Int) + N2)
  | 9,v=>v = .int .i64 ((N1:Int) + N2)
  | _,_=>True
set_option maxRecDepth 100000 in
set_option maxHeartbeats 800000 in
theorem zcg (b1 b2:Nat) (sd1 sd2:Int) (s1 s2:List Od) (w:World) (h1:zai 196 true w b1 sd1 s1) (h2:zai 199 false w b2 sd2 s2) (n1:s1.length ≤ 20) (n2:s2.length ≤ 20) :
    Calls Tryz.prog 76 #[zbm b1,zbn b2] w fun e w'=>e = .returned (.int .i64 (((zaA true sd1 s1).length:Int) + (zaA false sd2 s2).length))∧Below w.heap.size w w':=by
  have hb1:=zM h1
  have hb2:=zM h2
  generalize hL1:(zaA true sd1 s1).length = N1
  generalize hL2:(zaA false sd2 s2).length = N2
  have hN1:N1 ≤ 20:=by rw [← hL1,zaA,List.length_map]; exact Nat.le_trans (tks_len _ _) n1
  have hN2:N2 ≤ 20:=by rw [← hL2,zaA,List.length_map]; exact Nat.le_trans (tks_len _ _) n2
  have HLL:Hid ((zaA true sd1 s1).length = N1∧(zaA false sd2 s2).length = N2):=⟨hL1,hL2⟩
  have hs1:(w.alloc (Obj.cells (zbX b1).toArray 117)).heap.size = w.heap.size + 1:=ze _ _
  have hs2:((w.alloc (Obj.cells (zbX b1).toArray 117)).alloc (Obj.cells (zcp b2).toArray 117)).heap.size = w.heap.size + 1 + 1:=by rw [ze,hs1]
  have r0:=zh w (zbX b1) 117
  have r1:=zh (w.alloc (Obj.cells (zbX b1).toArray 117)) (zcp b2) 117
  rw [hs1] at r1
  have r0':=zb r0 (C:=w.heap.size + 1) ((Below.refl _ _).alloc (by rw [hs1]; omega) (Obj.cells (zcp b2).toArray 117)) (by omega)
  have HB0:Hid (Below w.heap.size w ((w.alloc (Obj.cells (zbX b1).toArray 117)).alloc (Obj.cells (zcp b2).toArray 117))):=((Below.refl _ _).alloc (Nat.le_refl _) _).alloc (by rw [hs1]; omega) _
  have HR5:=hide r0'
  have HR6:=hide r1
  have HS2:=hide hs2
  have HT1:=hide (zv h1 ((za HB0).block _ hb1))
  have HT2:=hide (zv h2 ((za HB0).block _ hb2))
  clear r0 r1 r0' hs1 hs2 hL1 hL2 h1 h2
  unfold zbm zbn
  go_enter Tryz.func76,Tryz.ntmps76
  go_wp2_with fail
  unfold zbX zcp at HB0 HR5 HR6 HS2 HT1 HT2
  generalize hW:((w.alloc (Obj.cells (List.toArray [.func (.func 131) #[.pointer (some ⟨b1,0,none⟩)] #[],.func (.func 132) #[.pointer (some ⟨b1,0,none⟩)] #[],.func (.func 133) #[.pointer (some ⟨b1,0,none⟩)] #[]]) 117)).alloc (Obj.cells (List.toArray [.func (.func 135) #[.pointer (some ⟨b2,0,none⟩)] #[],.func (.func 136) #[.pointer (some ⟨b2,0,none⟩)] #[],.func (.func 137) #[.pointer (some ⟨b2,0,none⟩)] #[]]) 117)) = W at HB0 HR5 HR6 HS2 HT1 HT2
  have hb1s:b1 < W.heap.size:=zM (za HT1)
  have hb2s:b2 < W.heap.size:=zM (za HT2)
  have hp5:w.heap.size < W.heap.size:=by rw [za HS2]; omega
  have hp6:w.heap.size + 1 < W.heap.size:=by rw [za HS2]; omega
  refine zax (RGrow W (fun f=>{ tmps:=#[zbm b1,zbn b2,.pointer (some ⟨w.heap.size,0,none⟩),.pointer (some ⟨w.heap.size + 1,0,none⟩),f 9,f 0,f 1,f 2,f 3,f 4,f 5,f 6,f 7,f 8],defers:=[] }) (C10 b1 b2 w.heap.size (w.heap.size + 1) N1 N2)) (by kernel_rfl) ?_ ?_ ?_
  · refine ⟨upd (fun _=>undef) 9 (.int .i64 0),rfl,?_,fun j hj=>by rw [List.getElem?_replicate] at hj; split at hj <;> simp at hj⟩
    rw [← hW]
    exact ⟨rfl,rfl,rfl,Nat.le_refl _,fun _ _=>rfl⟩
  · rintro x A V ⟨f,rfl,hbel,hC⟩ hx hrd
    have hall9:=zab hrd hx (acyc _ (by kernel_rfl)) 9 (by simp)
    have e9:f 9 = .int .i64 ((N1:Int) + N2):=hC 9 hall9
    simp only [e9]
    have HBV:=hide hbel
    clear hC hx hrd hall9 e9 hbel
    go_wp2_with fail
    go_ret
    exact ⟨rfl,(za HB0).trans ((za HBV).mono (za HB0).size)⟩
  · rintro x A V i o ⟨f,rfl,hbel,hC⟩ hx ho hxi hall
    have HBV:=hide hbel
    have HC:=hide hC
    match i,ho with
    | 0,ho =>
      obtain rfl:=Option.some.inj ho
      clear hall hC hbel
      rw [if_pos (by rfl)]
      unfold Oper.wp
      go_simp
      exact ⟨upd f 0 (.pointer (some ⟨w.heap.size,2,none⟩)),by simp [upd],za HBV,zG (za HC) rfl⟩
    | 1,ho =>
      obtain rfl:=Option.some.inj ho
      have g0:C10 b1 b2 w.heap.size (w.heap.size + 1) N1 N2 0 (f 0):=hC 0 (hall ⟨0,.data⟩ (by simp) rfl)
      simp only [C10] at g0
      have d2:=zb (za HR5) hbel hp5 2 _ rfl
      clear hall hC hbel
      rw [if_pos (by rfl)]
      unfold Oper.wp
      go_simp
      exact ⟨upd f 1 (.func (.func 133) #[.pointer (some ⟨b1,0,none⟩)] #[]),by simp [upd,g0],za HBV,zG (za HC) rfl⟩
    | 2,ho =>
      obtain rfl:=Option.some.inj ho
      have g1:C10 b1 b2 w.heap.size (w.heap.size + 1) N1 N2 1 (f 1):=hC 1 (hall ⟨1,.data⟩ (by simp) rfl)
      simp only [C10] at g1
      have ht:=zv (za HT1) (hbel.block _ hb1s)
      have HTV:=hide ht
      clear hall hC hbel ht
      rw [if_pos (by rfl)]
      unfold Oper.wp
      go_simp
      refine (levels_b b1 sd1 s1 V (za HTV) n1).mono ?_
      rintro e w4 ⟨v4,rfl,⟨al,cp,rfl,-,-⟩,hb4⟩
      rw [(za HLL).1]
      exact ⟨upd f 2 (.slice al N1 cp),by simp [upd,g1],(za HBV).trans (hb4.mono (za HBV).size),zG (za HC) ⟨al,cp,rfl⟩⟩
    | 3,ho =>
      obtain rfl:=Option.some.inj ho
      have g2:C10 b1 b2 w.heap.size (w.heap.size + 1) N1 N2 2 (f 2):=hC 2 (hall ⟨2,.data⟩ (by simp) rfl)
      obtain ⟨al,cp,g2⟩:=g2
      clear hall hC hbel
      rw [if_pos (by rfl)]
      unfold Oper.wp
      go_simp
      exact ⟨upd f 3 (.int .i64 N1),by simp [upd,g2],za HBV,zG (za HC) rfl⟩
    | 4,ho =>
      obtain rfl:=Option.some.inj ho
      clear hall hC hbel
      rw [if_pos (by rfl)]
      unfold Oper.wp
      go_simp
      exact ⟨upd f 4 (.pointer (some ⟨w.heap.size + 1,2,none⟩)),by simp [upd],za HBV,zG (za HC) rfl⟩
    | 5,ho =>
      obtain rfl:=Option.some.inj ho
      have g4:C10 b1 b2 w.heap.size (w.heap.size + 1) N1 N2 4 (f 4):=hC 4 (hall ⟨4,.data⟩ (by simp) rfl)
      simp only [C10] at g4
      have d2:=zb (za HR6) hbel hp6 2 _ rfl
      clear hall hC hbel
      rw [if_pos (by rfl)]
      unfold Oper.wp
      go_simp
      exact ⟨upd f 5 (.func (.func 137) #[.pointer (some ⟨b2,0,none⟩)] #[]),by simp [upd,g4],za HBV,zG (za HC) rfl⟩
    | 6,ho =>
      obtain rfl:=Option.some.inj ho
      have g5:C10 b1 b2 w.heap.size (w.heap.size + 1) N1 N2 5 (f 5):=hC 5 (hall ⟨5,.data⟩ (by simp) rfl)
      simp only [C10] at g5
      have ht:=zv (za HT2) (hbel.block _ hb2s)
      have HTV:=hide ht
      clear hall hC hbel ht
      rw [if_pos (by rfl)]
      unfold Oper.wp
      go_simp
      refine (levels_s b2 sd2 s2 V (za HTV) n2).mono ?_
      rintro e w4 ⟨v4,rfl,⟨al,cp,rfl,-,-⟩,hb4⟩
      rw [(za HLL).2]
      exact ⟨upd f 6 (.slice al N2 cp),by simp [upd,g5],(za HBV).trans (hb4.mono (za HBV).size),zG (za HC) ⟨al,cp,rfl⟩⟩
    | 7,ho =>
      obtain rfl:=Option.some.inj ho
      have g6:C10 b1 b2 w.heap.size (w.heap.size + 1) N1 N2 6 (f 6):=hC 6 (hall ⟨6,.data⟩ (by simp) rfl)
      obtain ⟨al,cp,g6⟩:=g6
      clear hall hC hbel
      rw [if_pos (by rfl)]
      unfold Oper.wp
      go_simp
      exact ⟨upd f 7 (.int .i64 N2),by simp [upd,g6],za HBV,zG (za HC) rfl⟩
    | 8,ho =>
      obtain rfl:=Option.some.inj ho
      have g3:C10 b1 b2 w.heap.size (w.heap.size + 1) N1 N2 3 (f 3):=hC 3 (hall ⟨3,.data⟩ (by simp) rfl)
      have g7:C10 b1 b2 w.heap.size (w.heap.size + 1) N1 N2 7 (f 7):=hC 7 (hall ⟨7,.data⟩ (by simp) rfl)
      simp only [C10] at g3
      simp only [C10] at g7
      have hwr8:IntKind.i64.wrap ((N1:Int) + N2) = (N1:Int) + N2:=by rw [IntKind.wrap_i64]; omega
      clear hall hC hbel
      rw [if_pos (by rfl)]
      unfold Oper.wp
      go_simp
      exact ⟨upd f 8 (.int .i64 ((N1:Int) + N2)),by simp [upd,g3,g7],za HBV,zG (za HC) rfl⟩
    | 9,ho =>
      obtain rfl:=Option.some.inj ho
      have g8:C10 b1 b2 w.heap.size (w.heap.size + 1) N1 N2 8 (f 8):=hC 8 (hall ⟨8,.data⟩ (by simp) rfl)
      simp only [C10] at g8
      clear hall hC hbel
      rw [if_pos (by rfl)]
      unfold Oper.wp
      go_simp
      exact ⟨upd f 9 (.int .i64 ((N1:Int) + N2)),by simp [upd,g8],za HBV,zG (za HC) rfl⟩
    | n + 10,ho=>simp at ho
end Go.Proofs.YtdfihaabhichdaaGreat
