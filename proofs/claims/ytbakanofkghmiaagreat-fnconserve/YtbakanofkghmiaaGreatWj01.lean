/-
  Small facts that all walks of this seat lean on: facts kept from the walk, an ending's value, a text's bytes as a list.
-/
import Derived.Test.YtbakanofkghmiaaGreatRows
import Derived.WalkKit
import Derived.Below
import Derived.Deep.MidRow
import Derived.OpenShut
import Derived.Deep.QuietTactic
import Derived.BigQuiet
import Derived.WalkSmall
import Derived.WalkSpells
import Derived.Handy
import Derived.WalkLawsBesides
import Derived.Laws.Externs
set_option linter.unusedVariables false
set_option maxHeartbeats 6400000
set_option maxRecDepth 100000
namespace Go.Proofs.YtbakanofkghmiaaGreat
open Go.RowKit
theorem hide {p:Prop} (h:p):Hid p:=h
theorem U {p:Prop} (h:Hid p):p:=h
theorem zB {a b:Bool} (h:a = b):Ending.returned (.bool a) = .returned (.bool b):=by rw [h]
theorem zr {k:IntKind} {a b:Int} (h:a = b):Ending.returned (.int k a) = .returned (.int k b):=by rw [h]
theorem get_nat (s:ByteArray) (k:Nat) (h:k < s.size):s[k] = s.data.toList[k]'(by simpa using h):=rfl
theorem data_len (s:ByteArray):s.data.toList.length = s.size:=by simp
abbrev H (n : Int) : Value := .int .i64 n
abbrev J (b o : Nat) : Addr := ⟨b, o, none⟩
abbrev I (b o : Nat) : Value := .pointer (some ⟨b, o, none⟩)
theorem qt {n : Nat} : n ≤ n := Nat.le_refl n
theorem ya {xm : Type} {a b : xm} (h : some a = some b) : a = b := Option.some.inj h
theorem Y {p : Prop} (h : p) : Hid p := h
theorem yh {o : Option Value} {v : Value} (h : o = some v) : ∀ u, o = some u → v = u := fun u hu => Option.some.inj (h.symm.trans hu)
theorem yi {o : Option (Option Value)} {v : Value} (h : o = some (some v)) : ∀ u, o = some (some u) → v = u := fun u hu => Option.some.inj (Option.some.inj (h.symm.trans hu))
abbrev yj (n : Nat) : Value := .float .f64 n
abbrev yk (b : ByteArray) : Value := .string b
abbrev M : Value := undef
abbrev eF (a : Array Value) (t : TypeId) : Obj := Obj.cells a t
theorem eH {P : Program} {xj : Exit → Act → World → Prop} {a : Act} {w : World} {x y : Code} (h : ∀ hj : Act → World → Prop, Hid (∀ a w, y.wp P xj a w → hj a w) → x.wp P (Exit.then hj xj) a w) : (Code.seq x y).wp P xj a w := wp_seq_k h
theorem eD (w : World) (o : Obj) : Below w.heap.size w (w.alloc o) := (Below.refl _ _).alloc (Nat.le_refl _) _
theorem D {w w1 w2 : World} (h : Below w.heap.size w w1) (F : Below w1.heap.size w1 w2) : Below w.heap.size w w2 := h.trans (F.mono h.size)
abbrev yu (a b c d e f g : Int) (p : Nat) (s : ByteArray) (h i j k l : Int) : List Value := [.int .i64 a, .int .i64 b, .int .i64 c, .int .i64 d, .int .i64 e, .int .i64 f, .int .i64 g, .float .f64 p, .string s, .int .i64 h, .int .i64 i, .int .i64 j, .int .i64 k, .int .i64 l]
abbrev yv (a b c d e : Int) (s : ByteArray) : List Value := [.int .i64 a, .int .i64 b, .int .i64 c, .int .i64 d, .int .i64 e, .string s]
abbrev yw (a b c d e f : Int) (p : Nat) (s : ByteArray) : List Value := [.int .i64 a, .int .i64 b, .int .i64 c, .int .i64 d, .int .i64 e, .int .i64 f, .float .f64 p, .string s]
abbrev ym (v : Value) : Ending := .returned v
abbrev yn (w w1 : World) : Prop := Below w.heap.size w w1
abbrev yp (w : World) (o : Nat) : Value := .pointer (some ⟨w.heap.size, o, none⟩)
abbrev yq (w : World) (o : Nat) : Addr := ⟨w.heap.size, o, none⟩
theorem yB {W : World} {b : Nat} {v0 v1 v2 v3 v4 : Value} (h : W.rangeAt b 0 [v0, v1, v2, v3, v4]) : W.cell? ⟨b, 0, none⟩ = some v0 ∧ W.cell? ⟨b, 1, none⟩ = some v1 ∧ W.cell? ⟨b, 2, none⟩ = some v2 ∧ W.cell? ⟨b, 3, none⟩ = some v3 ∧ W.cell? ⟨b, 4, none⟩ = some v4 := ⟨h 0 _ rfl, h 1 _ rfl, h 2 _ rfl, h 3 _ rfl, h 4 _ rfl⟩
theorem yC {W : World} {b : Nat} {v0 v1 v2 v3 v4 v5 : Value} (h : W.rangeAt b 0 [v0, v1, v2, v3, v4, v5]) : W.cell? ⟨b, 0, none⟩ = some v0 ∧ W.cell? ⟨b, 1, none⟩ = some v1 ∧ W.cell? ⟨b, 2, none⟩ = some v2 ∧ W.cell? ⟨b, 3, none⟩ = some v3 ∧ W.cell? ⟨b, 4, none⟩ = some v4 ∧ W.cell? ⟨b, 5, none⟩ = some v5 := ⟨h 0 _ rfl, h 1 _ rfl, h 2 _ rfl, h 3 _ rfl, h 4 _ rfl, h 5 _ rfl⟩
theorem yD {W : World} {b : Nat} {v0 v1 v2 v3 v4 v5 v6 v7 : Value} (h : W.rangeAt b 0 [v0, v1, v2, v3, v4, v5, v6, v7]) : W.cell? ⟨b, 0, none⟩ = some v0 ∧ W.cell? ⟨b, 1, none⟩ = some v1 ∧ W.cell? ⟨b, 2, none⟩ = some v2 ∧ W.cell? ⟨b, 3, none⟩ = some v3 ∧ W.cell? ⟨b, 4, none⟩ = some v4 ∧ W.cell? ⟨b, 5, none⟩ = some v5 ∧ W.cell? ⟨b, 6, none⟩ = some v6 ∧ W.cell? ⟨b, 7, none⟩ = some v7 := ⟨h 0 _ rfl, h 1 _ rfl, h 2 _ rfl, h 3 _ rfl, h 4 _ rfl, h 5 _ rfl, h 6 _ rfl, h 7 _ rfl⟩
theorem yE {W : World} {b : Nat} {v0 v1 v2 v3 v4 v5 v6 v7 v8 : Value} (h : W.rangeAt b 0 [v0, v1, v2, v3, v4, v5, v6, v7, v8]) : W.cell? ⟨b, 0, none⟩ = some v0 ∧ W.cell? ⟨b, 1, none⟩ = some v1 ∧ W.cell? ⟨b, 2, none⟩ = some v2 ∧ W.cell? ⟨b, 3, none⟩ = some v3 ∧ W.cell? ⟨b, 4, none⟩ = some v4 ∧ W.cell? ⟨b, 5, none⟩ = some v5 ∧ W.cell? ⟨b, 6, none⟩ = some v6 ∧ W.cell? ⟨b, 7, none⟩ = some v7 ∧ W.cell? ⟨b, 8, none⟩ = some v8 := ⟨h 0 _ rfl, h 1 _ rfl, h 2 _ rfl, h 3 _ rfl, h 4 _ rfl, h 5 _ rfl, h 6 _ rfl, h 7 _ rfl, h 8 _ rfl⟩
theorem yF {W : World} {b : Nat} {v0 v1 v2 v3 v4 v5 v6 v7 v8 v9 v10 v11 v12 v13 : Value} (h : W.rangeAt b 0 [v0, v1, v2, v3, v4, v5, v6, v7, v8, v9, v10, v11, v12, v13]) : W.cell? ⟨b, 0, none⟩ = some v0 ∧ W.cell? ⟨b, 1, none⟩ = some v1 ∧ W.cell? ⟨b, 2, none⟩ = some v2 ∧ W.cell? ⟨b, 3, none⟩ = some v3 ∧ W.cell? ⟨b, 4, none⟩ = some v4 ∧ W.cell? ⟨b, 5, none⟩ = some v5 ∧ W.cell? ⟨b, 6, none⟩ = some v6 ∧ W.cell? ⟨b, 7, none⟩ = some v7 ∧ W.cell? ⟨b, 8, none⟩ = some v8 ∧ W.cell? ⟨b, 9, none⟩ = some v9 ∧ W.cell? ⟨b, 10, none⟩ = some v10 ∧ W.cell? ⟨b, 11, none⟩ = some v11 ∧ W.cell? ⟨b, 12, none⟩ = some v12 ∧ W.cell? ⟨b, 13, none⟩ = some v13 := ⟨h 0 _ rfl, h 1 _ rfl, h 2 _ rfl, h 3 _ rfl, h 4 _ rfl, h 5 _ rfl, h 6 _ rfl, h 7 _ rfl, h 8 _ rfl, h 9 _ rfl, h 10 _ rfl, h 11 _ rfl, h 12 _ rfl, h 13 _ rfl⟩
abbrev yG := @List.getElem?_eq_some_iff
abbrev yH := @List.getElem?_eq_getElem
abbrev yI := @List.getElem?_replicate
abbrev yJ := @Nat.lt_of_lt_of_le
abbrev yK := @World.block_lt_of_cell?
abbrev yL := @World.cell?_setCell_other
abbrev yM := @World.cell?_setCell_same
abbrev yN := @Nat.le_trans
abbrev yO := @List.mem_of_getElem?
abbrev yP := @List.length_append
abbrev yQ := @World.cell?_of_block
abbrev yR := @World.grownBy.refl
abbrev yS := @Below.heap_setCell
abbrev yT := @List.take_succ_cons
abbrev yU := @List.drop_succ_cons
abbrev yV := @World.cell?_alloc_lt
abbrev yW := @List.getElem?_set_ne
abbrev yX := @World.rangeAt_setCells_same
abbrev yY := @Array.getElem?_eq_some_iff
abbrev yZ := @List.take_of_length_le
abbrev xa := @List.drop_of_length_le
abbrev xb := @World.there_setCells
abbrev xc := @List.drop_eq_getElem_cons
abbrev xd := @beq_eq_false_iff_ne
abbrev xe := @Bool.and_eq_true
abbrev xh := @decide_eq_true_eq
theorem ye {tg : Array Edge} {x : List Bool} (h : ∀ e ∈ tg, Region.binds .any e = true → x[e.on]? = some true) (j : Nat) (hm : (tg.toList.any fun e => e.on == j && Region.binds .any e) = true) : x[j]? = some true := by
  obtain ⟨e, he, hp⟩ := List.any_eq_true.1 hm
  rw [Bool.and_eq_true] at hp
  have G : e.on = j := by simpa using hp.1
  have := h e (by simpa using he) hp.2
  rw [G] at this
  exact this
def Rd (w:World) (v:Value) (l:List Int):Prop :=
 ∃ (a:Option Addr) (A:Nat),v = .slice a l.length A∧l.length ≤ 1073741824 ∧
  (l ≠ []→∃ b off,a = some (J b off)∧∀ i,i < l.length→w.cell? (J b (off + i)) = some (.int .u8 (l.getD i 0)))
theorem zY {a b c:World} {row:Option Nat} (h:a.grownBy b row) (k:b.grownBy c row):a.grownBy c row :=
 ⟨k.os.trans h.os,k.tape.trans h.tape,k.output.trans h.output,yN h.size k.size,
  fun i hi xB=>(k.block i (yJ hi h.size) xB).trans (h.block i hi xB)⟩
theorem gr_set (w:World) (a:Addr) (u:Value):w.grownBy (w.setCell a u) (some a.block) :=
 ⟨rfl,rfl,rfl,by simp [World.setCell],fun k _ xB=>yS _ _ _ _ (fun e=>xB (by rw [e]))⟩
theorem gr_drewN (w:World) (n:Nat) (row:Option Nat):w.grownBy (w.drewN n) row:=⟨rfl,rfl,rfl,Nat.le_refl _,fun _ _ _=>rfl⟩
theorem gr_below {w w':World} {g B:Nat} (h:w.grownBy w' (some g)) (hB:B ≤ g) (hs:B ≤ w.heap.size):Below B w w' :=
 ⟨h.os,h.tape,h.output,h.size,fun k hk=>h.block k (by omega) (by simp; omega)⟩
theorem zP {g a b:Nat} (h:a ≠ b):((J g a):Addr) ≠ (J g b):=by
 intro e; injection e; exact h (by assumption)
def Own (B:Nat) (w:World) (v:Value) (l:List Int):Prop :=
 ∃ g A,v = .slice (some (J g 0)) l.length A∧B ≤ g∧g < w.heap.size∧l.length ≤ 1073741824 ∧
  (∀ i,i < l.length→w.cell? (J g (0 + i)) = some (.int .u8 (l.getD i 0)))∧∀ i,i < l.length→w.frozen? (J g (0 + i)) = false
theorem Tryz.infoByte:(Tryz.prog.info? 5).map (fun i=>(i.zero,i.size,i.bytes)) = some (some (.int .u8 0),1,1):=by kernel_rfl
def OwnT (B:Nat) (w:World) (v:Value) (l:List Int):Prop :=
 ∃ g A xr t,v = .slice (some (J g 0)) l.length A∧B ≤ g∧w.heap[g]? = some (.cells xr t (0,0))∧l.length ≤ A∧A ≤ xr.size∧A ≤ maxLen∧l.length ≤ 1073741824 ∧
  xr.toList.take l.length = l.map (Value.int .u8)
theorem cell_head {w:World} {g t:Nat} {xr:Array Value} {l:List Int} (hg:w.heap[g]? = some (.cells xr t (0,0))) (ht:xr.toList.take l.length = l.map (Value.int .u8)) {i:Nat} (hi:i < l.length) :
  w.cell? (J g i) = some (.int .u8 (l.getD i 0)):=by
 rw [cell_of_row w g i xr t (0,0) hg]
 have G:(xr.toList.take l.length)[i]? = (l.map (Value.int .u8))[i]?:=by rw [ht]
 rw [List.getElem?_take,if_pos hi,List.getElem?_map,yH hi] at G
 simpa [hi] using G
theorem OwnT.own {B:Nat} {w:World} {v:Value} {l:List Int} (h:OwnT B w v l):Own B w v l:=by
 obtain ⟨g,A,xr,t,rfl,F,hg,_,_,_,hl,ht⟩:=h
 exact ⟨g,A,rfl,F,(yY.1 hg).1,hl,fun i hi=>by rw [Nat.zero_add]; exact cell_head hg ht hi,fun i _=>by simp [World.frozen?,hg]⟩
theorem OwnT.ge {B:Nat} {w:World} {v:Value} {l:List Int} (h:OwnT B w v l):∀ k,v.ownBlock = some k→B ≤ k:=by
 obtain ⟨g,A,xr,t,rfl,F,_⟩:=h
 intro k hk
 simp [Value.ownBlock] at hk
 omega
def Arr (yl B:Nat) (w wr:World) (done:List Int):Prop :=
 ∃ xr t,wr.heap[B]? = some (.cells xr t (0,0))∧xr.size = yl∧done.length ≤ yl∧xr.toList.take done.length = done.map (Value.int .u8)∧Below B w wr
theorem Arr.below {yl B:Nat} {w wr:World} {done:List Int} (h:Arr yl B w wr done):Below B w wr:=by
 obtain ⟨_,_,_,_,_,_,h⟩:=h; exact h
theorem Arr.lt {yl B:Nat} {w wr:World} {done:List Int} (h:Arr yl B w wr done):B < wr.heap.size:=by
 obtain ⟨_,_,h,_⟩:=h; exact (yY.1 h).1
theorem Arr.some {yl B:Nat} {w wr:World} {done:List Int} (h:Arr yl B w wr done) {j:Nat} (K:j < yl):∃ v,wr.cell? (J B j) = .some v:=by
 obtain ⟨xr,t,G,E,_⟩:=h
 exact ⟨_,(cell_of_row wr B j xr t (0,0) G).trans (Array.getElem?_eq_getElem (by omega))⟩
theorem cQ {B:Nat} {a w:World} (h:Below B a w) (n:Nat):Below B a (w.drewN n):=h.trans ⟨rfl,rfl,rfl,Nat.le_refl _,fun _ _=>rfl⟩
def Bts (l:List Int):Prop:=∀ x ∈ l,0 ≤ x∧x ≤ 255
theorem bts_get {l:List Int} (h:Bts l) (k:Nat):0 ≤ l.getD k 0∧l.getD k 0 ≤ 255:=by
 by_cases hk:k < l.length
 ·have e:l.getD k 0 = l[k]:=by simp [hk]
  rw [e]; exact h _ (List.getElem_mem hk)
 ·simp [Nat.le_of_not_lt hk]
theorem rd_of_row {w:World} {a:Option Addr} {len A:Nat} {zs:List Int}
  (h:(a = none∧len = 0∧A = 0∧zs = []) ∨ ∃ x,a = some x∧len ≤ A∧A ≤ maxLen∧zs.length = A∧(∀ i,i < zs.length→w.cell? (x.add i) = some (.int .u8 (zs.getD i 0)))∧∀ n ∈ zs,(Lit.int .u8 n).wf = true)
  (hl:len ≤ 1073741824):(zs.take len).length = len∧Rd w (.slice a len A) (zs.take len)∧Bts (zs.take len):=by
 rcases h with ⟨rfl,rfl,rfl,rfl⟩ | ⟨x,rfl,G,_,hz,hc,hw⟩
 ·exact ⟨rfl,⟨none,0,rfl,by simp,fun h=>absurd rfl h⟩,fun x hx=>by simp at hx⟩
 ·have xE:(zs.take len).length = len:=by rw [List.length_take]; omega
  refine ⟨xE,⟨some x,A,by rw [xE],by omega,fun xB=>?_⟩,fun n hn=>bounds_u8 (hw n (List.mem_of_mem_take hn))⟩
  have hp:0 < len:=by
   rcases Nat.eq_zero_or_pos len with h0 | h0
   ·subst h0; simp at xB
   ·exact h0
  obtain ⟨b,off,spot⟩:=x
  have h0:=hc 0 (by omega)
  have hspot:spot = none:=by simpa [Addr.add] using World.cell?_spot h0
  subst hspot
  refine ⟨b,off,rfl,fun i hi=>?_⟩
  rw [xE] at hi
  have:=hc i (by omega)
  have e:((J b off):Addr).add i = (J b (off + i)):=by unfold Addr.add; split <;> simp_all
  rw [e] at this
  rw [this]
  have e2:(zs.take len).getD i 0 = zs.getD i 0:=by simp [hi]
  rw [e2]
theorem rd_below {B:Nat} {w w':World} {v:Value} {l:List Int} (h:Rd w v l) (F:Below B w w') (hB:w.heap.size ≤ B):Rd w' v l:=by
 obtain ⟨a,A,rfl,hl,hc⟩:=h
 refine ⟨a,A,rfl,hl,fun xB=>?_⟩
 obtain ⟨b,off,rfl,xq⟩:=hc xB
 exact ⟨b,off,rfl,fun i hi=>(F.cell (p:=(J b (off + i))) (yJ (yK w _ (xq i hi)) hB)).trans (xq i hi)⟩
theorem zb {C:Nat} {w w':World} {b o:Nat} {cs:List Value} (h:w.rangeAt b o cs) (F:Below C w w') (hC:b < C):w'.rangeAt b o cs :=
 fun j v hv=>(F.cell (p:=(J b (o + j))) hC).trans (h j v hv)
theorem zg {C:Nat} {w w':World} {b o n:Nat} (h:w.there b o n) (F:Below C w w') (hC:b < C):w'.there b o n :=
 fun j K=>⟨by rw [F.cell (p:=(J b (o + j))) hC]; exact (h j K).1,by rw [F.frozen (p:=(J b (o + j))) hC]; exact (h j K).2⟩
theorem zt {h1:Option Nat} {w w':World} {b o:Nat} {cs:List Value} (h:w.rangeAt b o cs) (hg:w.grownBy w' h1) (F:b < w.heap.size) (xB:some b ≠ h1):w'.rangeAt b o cs :=
 fun j v hv=>(yQ (a:=(J b (o + j))) (hg.block b F xB)).trans (h j v hv)
theorem bK {h1:Option Nat} {w w':World} {b o n:Nat} (h:w.there b o n) (hg:w.grownBy w' h1) (F:b < w.heap.size) (xB:some b ≠ h1):w'.there b o n :=
 fun j K=>⟨by rw [yQ (a:=(J b (o + j))) (hg.block b F xB)]; exact (h j K).1,by rw [World.frozen?_of_block (a:=(J b (o + j))) (hg.block b F xB)]; exact (h j K).2⟩
theorem ba {w w':World} {B:Nat} {h1:Option Nat} (h:Below B w w') (hB:w.heap.size ≤ B):w.grownBy w' h1 :=
 ⟨h.os,h.tape,h.output,h.size,fun k hk _=>h.block k (by omega)⟩
theorem gr_below' {w w':World} {h1:Option Nat} {B:Nat} (h:w.grownBy w' h1) (hG:∀ g,h1 = some g→B ≤ g) (hs:B ≤ w.heap.size):Below B w w' :=
 ⟨h.os,h.tape,h.output,h.size,fun k hk=>h.block k (by omega) (fun e=>by have:=hG k e.symm; omega)⟩
section
variable {α:Type} (f:α→List Value) (sz:Nat)

def RdR (w:World) (v:Value) (l:List α):Prop :=
 ∃ (a:Option Addr) (A:Nat),v = .slice a l.length A∧l.length ≤ 1073741824 ∧
  (l ≠ []→∃ b off,a = some (J b off)∧b < w.heap.size∧∀ i c,l[i]? = some c→w.rangeAt b (off + i * sz) (f c))
def OwnR (B:Nat) (w:World) (v:Value) (l:List α):Prop :=
 ∃ (a:Option Addr) (A:Nat),v = .slice a l.length A∧l.length ≤ 1073741824 ∧
  (l ≠ []→∃ g,a = some (J g 0)∧B ≤ g∧g < w.heap.size∧(∀ i c,l[i]? = some c→w.rangeAt g (0 + i * sz) (f c))∧w.there g 0 (l.length * sz))
variable {f sz}

theorem da {B:Nat} {w:World} {v:Value} {l:List α} (h:OwnR f sz B w v l):RdR f sz w v l:=by
 obtain ⟨a,A,rfl,hl,h⟩:=h
 refine ⟨a,A,rfl,hl,fun xB=>?_⟩
 obtain ⟨g,rfl,_,E,h3,_⟩:=h xB
 exact ⟨g,0,rfl,E,h3⟩
theorem zn {C:Nat} {w w':World} {v:Value} {l:List α} (h:RdR f sz w v l) (F:Below C w w') (hC:w.heap.size ≤ C):RdR f sz w' v l:=by
 obtain ⟨a,A,rfl,hl,h⟩:=h
 refine ⟨a,A,rfl,hl,fun xB=>?_⟩
 obtain ⟨b,off,rfl,G,E⟩:=h xB
 exact ⟨b,off,rfl,yJ G F.size,fun i c hc=>zb (E i c hc) F (yJ G hC)⟩
theorem zo {B:Nat} {w:World} (b:Nat) (F:B ≤ b):∀ (vs:List Value) (o:Nat) (wr:World),Below B w wr→Below B w (wr.setCells b o vs)
 | [],_,_,h=>h
 | v :: r,o,wr,h=>by rw [World.setCells]; exact zo b F r (o + 1) _ (h.setCell (show B ≤ ((J b o):Addr).block from F) v)
theorem cx (b:Nat):∀ (vs:List Value) (o:Nat) (wr:World),(wr.setCells b o vs).heap.size = wr.heap.size
 | [],_,_=>rfl
 | v :: r,o,wr=>by rw [World.setCells,cx b r (o + 1)]; simp [World.setCell]
theorem cS {w:World} {g n t:Nat} {xr:Array Value} (hg:w.heap[g]? = some (.cells xr t (0,0))) (hn:n ≤ xr.size):w.there g 0 n:=fun j K =>
 ⟨by rw [cell_of_row w g (0 + j) xr t (0,0) hg,Array.getElem?_eq_getElem (by omega)]; rfl,by simp [World.frozen?,hg]⟩
theorem flat_get (hf:∀ c,(f c).length = sz):∀ (l:List α) (i j:Nat) (c:α),l[i]? = some c→j < sz→(l.flatMap f)[i * sz + j]? = (f c)[j]?
 | [],_,_,_,h,_=>by simp at h
 | a :: l,0,j,c,h,K=>by
  simp at h; subst h
  rw [List.flatMap_cons,List.getElem?_append_left (by rw [hf]; omega)]; simp
 | a :: l,i + 1,j,c,h,K=>by
  simp at h
  rw [List.flatMap_cons,List.getElem?_append_right (by rw [hf,Nat.add_mul]; omega),hf,← flat_get hf l i j c h K]
  congr 1
  rw [Nat.add_mul]; omega
theorem zK (hf:∀ c,(f c).length = sz):∀ (l:List α),(l.flatMap f).length = l.length * sz
 | []=>by simp
 | a :: l=>by rw [List.flatMap_cons,yP,hf,zK hf l,List.length_cons,Nat.add_mul]; omega
theorem bQ {B e:Nat} {w:World} {v:Value} {l:List α} (hf:∀ c,(f c).length = sz) (hl:l.length ≤ 1073741824) (h:w.ownsRow B e sz v l.length (l.flatMap f)):OwnR f sz B w v l:=by
 rcases h.2 with ⟨rfl,h0⟩ | ⟨g,A,xr,rfl,F,hg,vV,_,hcur,htake⟩
 ·exact ⟨none,0,by rw [h0],hl,fun xB=>absurd (List.length_eq_zero_iff.1 h0) xB⟩
 ·have kl:=Nat.mul_le_mul_right sz vV
  refine ⟨_,A,rfl,hl,fun _=>⟨g,rfl,F,(yY.1 hg).1,fun i c hc j u hu=>?_,cS hg (by omega)⟩⟩
  have K:j < sz:=by rw [← hf c]; exact (yG.1 hu).1
  have E:=flat_get hf l i j c hc K
  have xJ:i * sz + j < l.length * sz:=by
   have:=Nat.mul_le_mul_right sz (show i + 1 ≤ l.length from (yG.1 hc).1)
   rw [Nat.add_mul] at this; omega
  rw [← htake,List.getElem?_take,if_pos xJ] at E
  rw [cell_of_row w g _ xr e (0,0) hg,Nat.zero_add]
  simpa using E.trans hu
end
structure Cm where
 k:Int
 s:Int
 t:Int
 l:Int
 q:Int
 i:Int
 p:Nat
 g:ByteArray
def Cm.vs (c:Cm):List Value:=(yw c.k c.s c.t c.l c.q c.i c.p c.g)
theorem Cm.len (c:Cm):c.vs.length = 8:=rfl
theorem cm_cells {w:World} {b o:Nat} {c:Cm} (h:w.rangeAt b o c.vs) :
  w.cell? (J b o) = some (H c.k)∧w.cell? (J b (o + 1)) = some (H c.s)∧w.cell? (J b (o + 2)) = some (H c.t)∧w.cell? (J b (o + 3)) = some (H c.l) ∧
  w.cell? (J b (o + 4)) = some (H c.q)∧w.cell? (J b (o + 5)) = some (H c.i)∧w.cell? (J b (o + 6)) = some (yj c.p)∧w.cell? (J b (o + 7)) = some (yk c.g) :=
 ⟨h 0 _ rfl,h 1 _ rfl,h 2 _ rfl,h 3 _ rfl,h 4 _ rfl,h 5 _ rfl,h 6 _ rfl,h 7 _ rfl⟩
theorem zF {w:World} {b o n:Nat} (h:w.there b o n) (j:Nat) (K:j < n):∃ v,w.cell? (J b (o + j)) = some v∧w.frozen? (J b (o + j)) = false:=by
 obtain ⟨v,hv⟩:=Option.isSome_iff_exists.1 (h j K).1
 exact ⟨v,hv,(h j K).2⟩
theorem sfl (a:Addr) (x:Nat) (m:Mode) (w:World):(store a (yj x) m).run Tryz.prog w = stored Tryz.prog w a (yj x) m:=run_store _ w a _ m rfl
def nanB (x:Nat):Bool:=FloatKind.f64.format.order x x != some Ordering.eq
theorem datum_self (d:Ieee.Datum) (h:¬ d.isNaN = true):d.order d = some Ordering.eq:=by
 cases d with
 | nan s f=>simp [Ieee.Datum.isNaN] at h
 | infinity s=>cases s <;> rfl
 | number s m i=>simp [Ieee.Datum.order,Std.ReflCmp.compare_self]
theorem zero_read:FloatKind.f64.format.read 0 = .number false 0 FloatKind.f64.format.leastPlace:=by decide
theorem one_read:∃ m j,FloatKind.f64.format.read 4607182418800017408 = .number false m j∧m ≠ 0:=⟨_,_,rfl,by decide⟩
theorem zero_mag (s:Bool) (m a b:Nat) (h:Ieee.signed s m a = Ieee.signed false 0 b):m = 0:=by
 have h0:Ieee.signed false 0 b = 0:=by simp [Ieee.signed]
 rw [h0] at h
 have E:m <<< a = 0:=by
  cases s
  ·have h':((m <<< a:Nat):Int) = 0:=h
   omega
  ·have h':-((m <<< a:Nat):Int) = 0:=h
   omega
 rw [Nat.shiftLeft_eq] at E
 have:=Nat.two_pow_pos a
 rcases Nat.mul_eq_zero.1 E with h | h
 ·exact h
 ·omega
theorem div_zero (x:Nat) (h:FloatKind.f64.format.order x 0 = some Ordering.eq):∃ r,FloatKind.f64.format.div 4607182418800017408 x = some r:=by
 obtain ⟨m1,j1,G,hm1⟩:=one_read
 unfold Ieee.Format.order at h
 rw [zero_read] at h
 unfold Ieee.Format.div
 rw [G]
 cases hx:FloatKind.f64.format.read x with
 | nan s f=>rw [hx] at h; simp [Ieee.Datum.order] at h
 | infinity s=>rw [hx] at h; cases s <;> simp [Ieee.Datum.order] at h
 | number s m i =>
  rw [hx] at h
  simp only [Ieee.Datum.order,Option.some.injEq] at h
  have hm:=zero_mag s m _ _ (Std.LawfulEqCmp.eq_of_compare h)
  subst hm
  exact ⟨FloatKind.f64.format.write (.infinity s),by simp [Ieee.Datum.quotient,hm1]⟩
theorem sameFloat_any (x:Nat) (w:World) :
  Calls Tryz.prog 97 #[yj x,yj x] w fun e w'=>e = .returned (.bool true)∧w' = w:=by
 cases hn:nanB x with
 | true =>
  have h':(FloatKind.f64.format.order x x != some Ordering.eq) = true:=hn
  clear hn
  go_enter Tryz.func97,Tryz.ntmps97
  go_wp2
  go_ret
  exact ⟨rfl,rfl⟩
 | false =>
  have h':(FloatKind.f64.format.order x x != some Ordering.eq) = false:=hn
  have E:FloatKind.f64.format.order x x = some Ordering.eq:=by simpa using h'
  clear hn
  by_cases hz:FloatKind.f64.format.order x 0 = some Ordering.eq
  ·obtain ⟨r,hr⟩:=div_zero x hz
   have hq:∀ W,(binOp .quo 41 (yj 4607182418800017408) (yj x)).run Tryz.prog W = .ok (yj r) W:=fun W=>by simp [binOp,Op.floatArith,hr]
   have hz':(FloatKind.f64.format.order x 0 == some Ordering.eq) = true:=by rw [hz]; rfl
   clear hz hr
   go_enter Tryz.func97,Tryz.ntmps97
   go_wp2
   all_goals go_ret
   all_goals exact ⟨zB (by simp),rfl⟩
  ·have hz':(FloatKind.f64.format.order x 0 == some Ordering.eq) = false:=by simpa using hz
   clear hz
   go_enter Tryz.func97,Tryz.ntmps97
   go_wp2
   go_ret
   exact ⟨zB (by simp),rfl⟩
theorem sameFloat_nan (x y:Nat) (w:World) (hx:nanB x = true) (hy:nanB y = true) :
  Calls Tryz.prog 97 #[yj x,yj y] w fun e w'=>e = .returned (.bool true)∧w' = w:=by
 have G:(FloatKind.f64.format.order x x != some Ordering.eq) = true:=hx
 have E:(FloatKind.f64.format.order y y != some Ordering.eq) = true:=hy
 clear hx hy
 go_enter Tryz.func97,Tryz.ntmps97
 go_wp2
 go_ret
 exact ⟨rfl,rfl⟩
theorem fbits (x:Nat) (w:World):(callFunc 168 #[yj x]).run Tryz.prog w = .ok (.value (.int .u64 x)) w:=by
 rw [run_callFunc_extern (e:=Extern.MathFloatBits.float64bits) Tryz.func168 (by kernel_rfl) (by kernel_rfl) (by kernel_rfl) (by kernel_rfl)]
 rfl
theorem isNaN_any (x:Nat) (w:World) :
  Calls Tryz.prog 167 #[yj x] w fun e w'=>e = ym (.bool (nanB x))∧w' = w:=by
 go_enter Tryz.func167,Tryz.ntmps167
 go_wp2
 go_ret
 exact ⟨rfl,rfl⟩
def fbit (x:Nat):Nat:=if nanB x = true then 9221120237041090560 else x
theorem floatBits_any (x:Nat) (w:World) :
  Calls Tryz.prog 161 #[yj x] w fun e w'=>e = ym (.int .u64 (fbit x))∧w' = w:=by
 have F:=fbits
 cases h:nanB x
 case true =>
  have HX:Hid (fbit x = 9221120237041090560):=if_pos h
  go_enter Tryz.func161,Tryz.ntmps161
  go_wp2_with (go_at_call 167; refine (isNaN_any _ _).mono ?_; rintro e w' ⟨rfl,rfl⟩)
  go_ret
  exact ⟨by rw [U HX]; rfl,rfl⟩
 case false =>
  have HX:Hid (fbit x = x):=if_neg (by rw [h]; decide)
  go_enter Tryz.func161,Tryz.ntmps161
  go_wp2_with (go_at_call 167; refine (isNaN_any _ _).mono ?_; rintro e w' ⟨rfl,rfl⟩)
  go_ret
  exact ⟨by rw [U HX]; rfl,rfl⟩
end Go.Proofs.YtbakanofkghmiaaGreat
