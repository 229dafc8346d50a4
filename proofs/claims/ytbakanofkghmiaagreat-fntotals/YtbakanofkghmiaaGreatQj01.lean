/-
  Small facts that all walks of this seat lean on: facts kept from the walk, an ending's value, a text's bytes as a list.
-/
import Derived.Test.YtbakanofkghmiaaGreatRows
import Derived.WalkKit
import Derived.Below
import Derived.Deep.MidRow
import Derived.OpenShut
import Derived.Deep.QuietTactic
import Derived.BigQuiet
import Derived.WalkSmall
import Derived.WalkSpells
import Derived.WalkLawsBesides
import Derived.Deep.RegionWith
import Derived.Laws.Externs
import Derived.Handy
set_option linter.unusedVariables false
set_option maxHeartbeats 6400000
set_option maxRecDepth 100000
namespace Go.Proofs.YtbakanofkghmiaaGreat
open Go.RowKit
theorem hide {p:Prop} (h:p):Hid p:=h
theorem U {p:Prop} (h:Hid p):p:=h
theorem zB {a b:Bool} (h:a = b):Ending.returned (.bool a) = .returned (.bool b):=by rw [h]
theorem zt {k:IntKind} {a b:Int} (h:a = b):Ending.returned (.int k a) = .returned (.int k b):=by rw [h]
theorem get_nat (s:ByteArray) (k:Nat) (h:k < s.size):s[k] = s.data.toList[k]'(by simpa using h):=rfl
theorem data_len (s:ByteArray):s.data.toList.length = s.size:=by simp
abbrev H (n : Int) : Value := .int .i64 n
abbrev J (b o : Nat) : Addr := ⟨b, o, none⟩
abbrev I (b o : Nat) : Value := .pointer (some ⟨b, o, none⟩)
theorem tg {n : Nat} : n ≤ n := Nat.le_refl n
theorem ya {xn : Type} {a b : xn} (h : some a = some b) : a = b := Option.some.inj h
theorem Y {p : Prop} (h : p) : Hid p := h
theorem yh {o : Option Value} {v : Value} (h : o = some v) : ∀ u, o = some u → v = u := fun u hu => Option.some.inj (h.symm.trans hu)
theorem yi {o : Option (Option Value)} {v : Value} (h : o = some (some v)) : ∀ u, o = some (some u) → v = u := fun u hu => Option.some.inj (Option.some.inj (h.symm.trans hu))
abbrev yj (n : Nat) : Value := .float .f64 n
abbrev yk (b : ByteArray) : Value := .string b
abbrev M : Value := undef
abbrev E (a : Array Value) (t : TypeId) : Obj := Obj.cells a t
theorem eI {P : Program} {h1 : Exit → Act → World → Prop} {a : Act} {w : World} {x y : Code} (h : ∀ hR : Act → World → Prop, Hid (∀ a w, y.wp P h1 a w → hR a w) → x.wp P (Exit.then hR h1) a w) : (Code.seq x y).wp P h1 a w := wp_seq_k h
theorem eE (w : World) (o : Obj) : Below w.heap.size w (w.alloc o) := (Below.refl _ _).alloc (Nat.le_refl _) _
theorem eH {w w1 w2 : World} (h : Below w.heap.size w w1) (X : Below w1.heap.size w1 w2) : Below w.heap.size w w2 := h.trans (X.mono h.size)
abbrev yv (a b c d e f g : Int) (p : Nat) (s : ByteArray) (h i j k l : Int) : List Value := [.int .i64 a, .int .i64 b, .int .i64 c, .int .i64 d, .int .i64 e, .int .i64 f, .int .i64 g, .float .f64 p, .string s, .int .i64 h, .int .i64 i, .int .i64 j, .int .i64 k, .int .i64 l]
abbrev yw (a b c d e : Int) (s : ByteArray) : List Value := [.int .i64 a, .int .i64 b, .int .i64 c, .int .i64 d, .int .i64 e, .string s]
abbrev yx (a b c d e f : Int) (p : Nat) (s : ByteArray) : List Value := [.int .i64 a, .int .i64 b, .int .i64 c, .int .i64 d, .int .i64 e, .int .i64 f, .float .f64 p, .string s]
abbrev ym (v : Value) : Ending := .returned v
abbrev yn (w w1 : World) : Prop := Below w.heap.size w w1
abbrev yp (w : World) (o : Nat) : Value := .pointer (some ⟨w.heap.size, o, none⟩)
abbrev yq (w : World) (o : Nat) : Addr := ⟨w.heap.size, o, none⟩
theorem yC {W : World} {b : Nat} {v0 v1 v2 v3 v4 : Value} (h : W.rangeAt b 0 [v0, v1, v2, v3, v4]) : W.cell? ⟨b, 0, none⟩ = some v0 ∧ W.cell? ⟨b, 1, none⟩ = some v1 ∧ W.cell? ⟨b, 2, none⟩ = some v2 ∧ W.cell? ⟨b, 3, none⟩ = some v3 ∧ W.cell? ⟨b, 4, none⟩ = some v4 := ⟨h 0 _ rfl, h 1 _ rfl, h 2 _ rfl, h 3 _ rfl, h 4 _ rfl⟩
theorem yD {W : World} {b : Nat} {v0 v1 v2 v3 v4 v5 : Value} (h : W.rangeAt b 0 [v0, v1, v2, v3, v4, v5]) : W.cell? ⟨b, 0, none⟩ = some v0 ∧ W.cell? ⟨b, 1, none⟩ = some v1 ∧ W.cell? ⟨b, 2, none⟩ = some v2 ∧ W.cell? ⟨b, 3, none⟩ = some v3 ∧ W.cell? ⟨b, 4, none⟩ = some v4 ∧ W.cell? ⟨b, 5, none⟩ = some v5 := ⟨h 0 _ rfl, h 1 _ rfl, h 2 _ rfl, h 3 _ rfl, h 4 _ rfl, h 5 _ rfl⟩
theorem yE {W : World} {b : Nat} {v0 v1 v2 v3 v4 v5 v6 v7 : Value} (h : W.rangeAt b 0 [v0, v1, v2, v3, v4, v5, v6, v7]) : W.cell? ⟨b, 0, none⟩ = some v0 ∧ W.cell? ⟨b, 1, none⟩ = some v1 ∧ W.cell? ⟨b, 2, none⟩ = some v2 ∧ W.cell? ⟨b, 3, none⟩ = some v3 ∧ W.cell? ⟨b, 4, none⟩ = some v4 ∧ W.cell? ⟨b, 5, none⟩ = some v5 ∧ W.cell? ⟨b, 6, none⟩ = some v6 ∧ W.cell? ⟨b, 7, none⟩ = some v7 := ⟨h 0 _ rfl, h 1 _ rfl, h 2 _ rfl, h 3 _ rfl, h 4 _ rfl, h 5 _ rfl, h 6 _ rfl, h 7 _ rfl⟩
theorem yF {W : World} {b : Nat} {v0 v1 v2 v3 v4 v5 v6 v7 v8 : Value} (h : W.rangeAt b 0 [v0, v1, v2, v3, v4, v5, v6, v7, v8]) : W.cell? ⟨b, 0, none⟩ = some v0 ∧ W.cell? ⟨b, 1, none⟩ = some v1 ∧ W.cell? ⟨b, 2, none⟩ = some v2 ∧ W.cell? ⟨b, 3, none⟩ = some v3 ∧ W.cell? ⟨b, 4, none⟩ = some v4 ∧ W.cell? ⟨b, 5, none⟩ = some v5 ∧ W.cell? ⟨b, 6, none⟩ = some v6 ∧ W.cell? ⟨b, 7, none⟩ = some v7 ∧ W.cell? ⟨b, 8, none⟩ = some v8 := ⟨h 0 _ rfl, h 1 _ rfl, h 2 _ rfl, h 3 _ rfl, h 4 _ rfl, h 5 _ rfl, h 6 _ rfl, h 7 _ rfl, h 8 _ rfl⟩
theorem yG {W : World} {b : Nat} {v0 v1 v2 v3 v4 v5 v6 v7 v8 v9 v10 v11 v12 v13 : Value} (h : W.rangeAt b 0 [v0, v1, v2, v3, v4, v5, v6, v7, v8, v9, v10, v11, v12, v13]) : W.cell? ⟨b, 0, none⟩ = some v0 ∧ W.cell? ⟨b, 1, none⟩ = some v1 ∧ W.cell? ⟨b, 2, none⟩ = some v2 ∧ W.cell? ⟨b, 3, none⟩ = some v3 ∧ W.cell? ⟨b, 4, none⟩ = some v4 ∧ W.cell? ⟨b, 5, none⟩ = some v5 ∧ W.cell? ⟨b, 6, none⟩ = some v6 ∧ W.cell? ⟨b, 7, none⟩ = some v7 ∧ W.cell? ⟨b, 8, none⟩ = some v8 ∧ W.cell? ⟨b, 9, none⟩ = some v9 ∧ W.cell? ⟨b, 10, none⟩ = some v10 ∧ W.cell? ⟨b, 11, none⟩ = some v11 ∧ W.cell? ⟨b, 12, none⟩ = some v12 ∧ W.cell? ⟨b, 13, none⟩ = some v13 := ⟨h 0 _ rfl, h 1 _ rfl, h 2 _ rfl, h 3 _ rfl, h 4 _ rfl, h 5 _ rfl, h 6 _ rfl, h 7 _ rfl, h 8 _ rfl, h 9 _ rfl, h 10 _ rfl, h 11 _ rfl, h 12 _ rfl, h 13 _ rfl⟩
abbrev yH := @List.getElem?_eq_some_iff
abbrev yI := @List.getElem?_eq_getElem
abbrev yJ := @List.getElem?_replicate
abbrev yK := @Nat.lt_of_lt_of_le
abbrev yL := @World.block_lt_of_cell?
abbrev yM := @World.cell?_setCell_other
abbrev yN := @World.cell?_setCell_same
abbrev yO := @Nat.le_trans
abbrev yP := @List.mem_of_getElem?
abbrev yQ := @List.length_append
abbrev yR := @World.cell?_of_block
abbrev yS := @World.grownBy.refl
abbrev yT := @Below.heap_setCell
abbrev yU := @List.take_succ_cons
abbrev yV := @List.drop_succ_cons
abbrev yW := @World.cell?_alloc_lt
abbrev yX := @List.getElem?_set_ne
abbrev yY := @World.rangeAt_setCells_same
abbrev yZ := @Array.getElem?_eq_some_iff
abbrev xa := @List.take_of_length_le
abbrev xb := @List.drop_of_length_le
abbrev xc := @World.there_setCells
abbrev xd := @List.drop_eq_getElem_cons
abbrev xe := @beq_eq_false_iff_ne
abbrev xh := @Bool.and_eq_true
abbrev xj := @decide_eq_true_eq
theorem ye {qt : Array Edge} {x : List Bool} (h : ∀ e ∈ qt, Region.binds .any e = true → x[e.on]? = some true) (j : Nat) (hm : (qt.toList.any fun e => e.on == j && Region.binds .any e) = true) : x[j]? = some true := by
  obtain ⟨e, he, hp⟩ := List.any_eq_true.1 hm
  rw [Bool.and_eq_true] at hp
  have Q : e.on = j := by simpa using hp.1
  have := h e (by simpa using he) hp.2
  rw [Q] at this
  exact this
def Rd (w:World) (v:Value) (l:List Int):Prop :=
 ∃ (a:Option Addr) (A:Nat),v = .slice a l.length A∧l.length ≤ 1073741824 ∧
  (l ≠ []→∃ b off,a = some (J b off)∧∀ i,i < l.length→w.cell? (J b (off + i)) = some (.int .u8 (l.getD i 0)))
theorem zZ {a b c:World} {row:Option Nat} (h:a.grownBy b row) (k:b.grownBy c row):a.grownBy c row :=
 ⟨k.os.trans h.os,k.tape.trans h.tape,k.output.trans h.output,yO h.size k.size,
  fun i hi xB=>(k.block i (yK hi h.size) xB).trans (h.block i hi xB)⟩
theorem gr_set (w:World) (a:Addr) (u:Value):w.grownBy (w.setCell a u) (some a.block) :=
 ⟨rfl,rfl,rfl,by simp [World.setCell],fun k _ xB=>yT _ _ _ _ (fun e=>xB (by rw [e]))⟩
theorem gr_drewN (w:World) (n:Nat) (row:Option Nat):w.grownBy (w.drewN n) row:=⟨rfl,rfl,rfl,Nat.le_refl _,fun _ _ _=>rfl⟩
theorem gr_below {w w':World} {g B:Nat} (h:w.grownBy w' (some g)) (hB:B ≤ g) (hs:B ≤ w.heap.size):Below B w w' :=
 ⟨h.os,h.tape,h.output,h.size,fun k hk=>h.block k (by omega) (by simp; omega)⟩
theorem zQ {g a b:Nat} (h:a ≠ b):((J g a):Addr) ≠ (J g b):=by
 intro e; injection e; exact h (by assumption)
def Own (B:Nat) (w:World) (v:Value) (l:List Int):Prop :=
 ∃ g A,v = .slice (some (J g 0)) l.length A∧B ≤ g∧g < w.heap.size∧l.length ≤ 1073741824 ∧
  (∀ i,i < l.length→w.cell? (J g (0 + i)) = some (.int .u8 (l.getD i 0)))∧∀ i,i < l.length→w.frozen? (J g (0 + i)) = false
theorem Tryz.infoByte:(Tryz.prog.info? 5).map (fun i=>(i.zero,i.size,i.bytes)) = some (some (.int .u8 0),1,1):=by kernel_rfl
def OwnT (B:Nat) (w:World) (v:Value) (l:List Int):Prop :=
 ∃ g A xu t,v = .slice (some (J g 0)) l.length A∧B ≤ g∧w.heap[g]? = some (.cells xu t (0,0))∧l.length ≤ A∧A ≤ xu.size∧A ≤ maxLen∧l.length ≤ 1073741824 ∧
  xu.toList.take l.length = l.map (Value.int .u8)
theorem cell_head {w:World} {g t:Nat} {xu:Array Value} {l:List Int} (hg:w.heap[g]? = some (.cells xu t (0,0))) (ht:xu.toList.take l.length = l.map (Value.int .u8)) {i:Nat} (hi:i < l.length) :
  w.cell? (J g i) = some (.int .u8 (l.getD i 0)):=by
 rw [cell_of_row w g i xu t (0,0) hg]
 have Q:(xu.toList.take l.length)[i]? = (l.map (Value.int .u8))[i]?:=by rw [ht]
 rw [List.getElem?_take,if_pos hi,List.getElem?_map,yI hi] at Q
 simpa [hi] using Q
theorem OwnT.own {B:Nat} {w:World} {v:Value} {l:List Int} (h:OwnT B w v l):Own B w v l:=by
 obtain ⟨g,A,xu,t,rfl,X,hg,_,_,_,hl,ht⟩:=h
 exact ⟨g,A,rfl,X,(yZ.1 hg).1,hl,fun i hi=>by rw [Nat.zero_add]; exact cell_head hg ht hi,fun i _=>by simp [World.frozen?,hg]⟩
theorem OwnT.ge {B:Nat} {w:World} {v:Value} {l:List Int} (h:OwnT B w v l):∀ k,v.ownBlock = some k→B ≤ k:=by
 obtain ⟨g,A,xu,t,rfl,X,_⟩:=h
 intro k hk
 simp [Value.ownBlock] at hk
 omega
def Arr (yl B:Nat) (w wr:World) (done:List Int):Prop :=
 ∃ xu t,wr.heap[B]? = some (.cells xu t (0,0))∧xu.size = yl∧done.length ≤ yl∧xu.toList.take done.length = done.map (Value.int .u8)∧Below B w wr
theorem Arr.below {yl B:Nat} {w wr:World} {done:List Int} (h:Arr yl B w wr done):Below B w wr:=by
 obtain ⟨_,_,_,_,_,_,h⟩:=h; exact h
theorem Arr.lt {yl B:Nat} {w wr:World} {done:List Int} (h:Arr yl B w wr done):B < wr.heap.size:=by
 obtain ⟨_,_,h,_⟩:=h; exact (yZ.1 h).1
theorem Arr.some {yl B:Nat} {w wr:World} {done:List Int} (h:Arr yl B w wr done) {j:Nat} (R:j < yl):∃ v,wr.cell? (J B j) = .some v:=by
 obtain ⟨xu,t,Q,N,_⟩:=h
 exact ⟨_,(cell_of_row wr B j xu t (0,0) Q).trans (Array.getElem?_eq_getElem (by omega))⟩
theorem cU {B:Nat} {a w:World} (h:Below B a w) (n:Nat):Below B a (w.drewN n):=h.trans ⟨rfl,rfl,rfl,Nat.le_refl _,fun _ _=>rfl⟩
def Bts (l:List Int):Prop:=∀ x ∈ l,0 ≤ x∧x ≤ 255
theorem bts_get {l:List Int} (h:Bts l) (k:Nat):0 ≤ l.getD k 0∧l.getD k 0 ≤ 255:=by
 by_cases hk:k < l.length
 ·have e:l.getD k 0 = l[k]:=by simp [hk]
  rw [e]; exact h _ (List.getElem_mem hk)
 ·simp [Nat.le_of_not_lt hk]
theorem rd_of_row {w:World} {a:Option Addr} {len A:Nat} {zs:List Int}
  (h:(a = none∧len = 0∧A = 0∧zs = []) ∨ ∃ x,a = some x∧len ≤ A∧A ≤ maxLen∧zs.length = A∧(∀ i,i < zs.length→w.cell? (x.add i) = some (.int .u8 (zs.getD i 0)))∧∀ n ∈ zs,(Lit.int .u8 n).wf = true)
  (hl:len ≤ 1073741824):(zs.take len).length = len∧Rd w (.slice a len A) (zs.take len)∧Bts (zs.take len):=by
 rcases h with ⟨rfl,rfl,rfl,rfl⟩ | ⟨x,rfl,Q,_,hz,hc,hw⟩
 ·exact ⟨rfl,⟨none,0,rfl,by simp,fun h=>absurd rfl h⟩,fun x hx=>by simp at hx⟩
 ·have xG:(zs.take len).length = len:=by rw [List.length_take]; omega
  refine ⟨xG,⟨some x,A,by rw [xG],by omega,fun xB=>?_⟩,fun n hn=>bounds_u8 (hw n (List.mem_of_mem_take hn))⟩
  have hp:0 < len:=by
   rcases Nat.eq_zero_or_pos len with h0 | h0
   ·subst h0; simp at xB
   ·exact h0
  obtain ⟨b,off,spot⟩:=x
  have h0:=hc 0 (by omega)
  have hspot:spot = none:=by simpa [Addr.add] using World.cell?_spot h0
  subst hspot
  refine ⟨b,off,rfl,fun i hi=>?_⟩
  rw [xG] at hi
  have:=hc i (by omega)
  have e:((J b off):Addr).add i = (J b (off + i)):=by unfold Addr.add; split <;> simp_all
  rw [e] at this
  rw [this]
  have e2:(zs.take len).getD i 0 = zs.getD i 0:=by simp [hi]
  rw [e2]
theorem rd_below {B:Nat} {w w':World} {v:Value} {l:List Int} (h:Rd w v l) (X:Below B w w') (hB:w.heap.size ≤ B):Rd w' v l:=by
 obtain ⟨a,A,rfl,hl,hc⟩:=h
 refine ⟨a,A,rfl,hl,fun xB=>?_⟩
 obtain ⟨b,off,rfl,xr⟩:=hc xB
 exact ⟨b,off,rfl,fun i hi=>(X.cell (p:=(J b (off + i))) (yK (yL w _ (xr i hi)) hB)).trans (xr i hi)⟩
theorem rd_grown {w w':World} {v:Value} {l:List Int} {B:Nat} (h:Rd w v l) (hg:w.grownBy w' (some B)) (hB:l ≠ []→v.ownBlock ≠ some B):Rd w' v l:=by
 obtain ⟨a,A,rfl,hl,hc⟩:=h
 refine ⟨a,A,rfl,hl,fun xB=>?_⟩
 obtain ⟨b,off,rfl,xr⟩:=hc xB
 have X:some b ≠ some B:=fun e=>hB xB (by simpa [Value.ownBlock] using e)
 exact ⟨b,off,rfl,fun i hi=>(yR (a:=(J b (off + i))) (hg.block b (yL w _ (xr i hi)) X)).trans (xr i hi)⟩
structure Src (B:Nat) (w:World) (v:Value) (l:List Int) (m:Int):Prop where
 rd:Rd w v l
 ne:l ≠ []→v.ownBlock ≠ some B
 bts:Bts l
 code:w.cell? ⟨B,0,none⟩ = some v
 cells:∃ at_ seed:Int,0 ≤ at_∧at_ ≤ m∧0 ≤ seed∧seed < 2147483648∧w.cell? ⟨B,1,none⟩ = some (.int .i64 at_)∧w.cell? ⟨B,2,none⟩ = some (.int .i64 seed)
 free1:w.frozen? ⟨B,1,none⟩ = false
 free2:w.frozen? ⟨B,2,none⟩ = false
def bE (B:Nat) (w:World) (v:Value) (l:List Int) (m:Int) (w':World):Prop:=Src B w' v l m∧w.grownBy w' (some B)
theorem src_refl {B:Nat} {w:World} {v:Value} {l:List Int} {m:Int} (h:Src B w v l m):bE B w v l m w:=⟨h,yS _ _⟩
theorem src_drew {B:Nat} {w0 w:World} {v:Value} {l:List Int} {m:Int} (h:bE B w0 v l m w) (q:Nat):bE B w0 v l m (w.drewN q) :=
 ⟨⟨h.1.rd,h.1.ne,h.1.bts,h.1.code,h.1.cells,h.1.free1,h.1.free2⟩,zZ h.2 (gr_drewN _ q _)⟩
theorem src_at {B:Nat} {w0 w:World} {v:Value} {l:List Int} {m:Int} (h:bE B w0 v l m w) (a:Int) (h0:0 ≤ a) (ha:a ≤ m + 1):bE B w0 v l (m + 1) (w.setCell (J B 1) (H a)):=by
 obtain ⟨h,hg⟩:=h
 obtain ⟨at0,s0,_,_,k2,k3,Q,N⟩:=h.cells
 have g:=gr_set w (J B 1) (H a)
 exact ⟨⟨rd_grown h.rd g h.ne,h.ne,h.bts,(yM _ _ _ _ (zQ (by omega))).trans h.code,
  ⟨a,s0,h0,ha,k2,k3,yN _ _ _ Q,(yM _ _ _ _ (zQ (by omega))).trans N⟩,
  (World.frozen?_setCell _ _ _ _).trans h.free1,(World.frozen?_setCell _ _ _ _).trans h.free2⟩,zZ hg g⟩
theorem src_seed {B:Nat} {w0 w:World} {v:Value} {l:List Int} {m:Int} (h:bE B w0 v l m w) (s:Int) (h0:0 ≤ s) (hs:s < 2147483648):bE B w0 v l m (w.setCell (J B 2) (H s)):=by
 obtain ⟨h,hg⟩:=h
 obtain ⟨at0,s0,k0,k1,_,_,Q,N⟩:=h.cells
 have g:=gr_set w (J B 2) (H s)
 exact ⟨⟨rd_grown h.rd g h.ne,h.ne,h.bts,(yM _ _ _ _ (zQ (by omega))).trans h.code,
  ⟨at0,s,k0,k1,h0,hs,(yM _ _ _ _ (zQ (by omega))).trans Q,yN _ _ _ N⟩,
  (World.frozen?_setCell _ _ _ _).trans h.free1,(World.frozen?_setCell _ _ _ _).trans h.free2⟩,zZ hg g⟩
theorem src_step {B:Nat} {w w1:World} {v:Value} {l:List Int} {m at_ seed:Int} (h:Src B w v l m) (h0:0 ≤ at_) (ha:at_ ≤ m) (c1:w.cell? (J B 1) = some (H at_)) (c2:w.cell? (J B 2) = some (H seed))
  (hw:w.setCell (J B 1) (H (at_ + 1)) = w1) :
  bE B w v l (m + 1) w1∧w1.cell? (J B 0) = some v∧w1.cell? (J B 1) = some (H (at_ + 1))∧w1.cell? (J B 2) = some (H seed)∧w1.frozen? (J B 2) = false∧Rd w1 v l:=by
 subst hw
 have k:=src_at (src_refl h) (at_ + 1) (by omega) (by omega)
 exact ⟨k,k.1.code,yN _ _ _ c1,(yM _ _ _ _ (zQ (by omega))).trans c2,k.1.free2,k.1.rd⟩
theorem seed_step {B:Nat} {w0 w1 w2:World} {v:Value} {l:List Int} {m at_ s:Int} (h:bE B w0 v l m w1) (d1:w1.cell? (J B 1) = some (H at_)) (h0:0 ≤ s) (hs:s < 2147483648)
  (hw:w1.setCell (J B 2) (H s) = w2) :
  bE B w0 v l m w2∧w2.cell? (J B 0) = some v∧w2.cell? (J B 1) = some (H at_)∧w2.cell? (J B 2) = some (H s)∧Rd w2 v l:=by
 subst hw
 obtain ⟨_,_,_,_,_,_,_,k⟩:=h.1.cells
 have g:=src_seed h s h0 hs
 exact ⟨g,g.1.code,(yM _ _ _ _ (zQ (by omega))).trans d1,yN _ _ _ k,g.1.rd⟩
structure Sr where
 at_:Int
 seed:Int
def byF (l:List Int) (s:Sr):Int × Sr :=
 if s.at_ + 1 ≤ l.length then (l.getD s.at_.toNat 0,⟨s.at_ + 1,(s.seed * 31 + l.getD s.at_.toNat 0 + 7) % 2147483648⟩)
 else if 3000 < s.at_ + 1 then (0,⟨s.at_ + 1,s.seed⟩)
 else ((s.seed * 1103515245 + 12345) % 2147483648 / 65536 % 256,⟨s.at_ + 1,(s.seed * 1103515245 + 12345) % 2147483648⟩)
def nxF (l:List Int) (n:Int) (s:Sr):Int × Sr :=
 if n ≤ 1 then (0,s) else if n ≤ 256 then ((byF l s).1 % n,(byF l s).2)
 else (((byF l s).1 * 65536 + (byF l (byF l s).2).1 * 256 + (byF l (byF l (byF l s).2).2).1) % n,(byF l (byF l (byF l s).2).2).2)
structure SrX (B:Nat) (w:World) (v:Value) (l:List Int) (s:Sr):Prop where
 src:Src B w v l s.at_
 a0:0 ≤ s.at_
 s0:0 ≤ s.seed
 s1:s.seed < 2147483648
 c1:w.cell? ⟨B,1,none⟩ = some (.int .i64 s.at_)
 c2:w.cell? ⟨B,2,none⟩ = some (.int .i64 s.seed)
def SrXE (B:Nat) (w:World) (v:Value) (l:List Int) (s:Sr) (w':World):Prop:=SrX B w' v l s∧w.grownBy w' (some B)
theorem srX_drew {B:Nat} {w0 w:World} {v:Value} {l:List Int} {s:Sr} (h:SrXE B w0 v l s w) (q:Nat):SrXE B w0 v l s (w.drewN q) :=
 ⟨⟨(src_drew (src_refl h.1.src) q).1,h.1.a0,h.1.s0,h.1.s1,h.1.c1,h.1.c2⟩,zZ h.2 (gr_drewN _ q _)⟩
set_option maxRecDepth 100000 in
set_option maxHeartbeats 1600000 in
theorem byte_ex (B:Nat) (v:Value) (l:List Int) (s:Sr) (w:World) (h:SrX B w v l s) (hm:s.at_ ≤ 1073741824) :
  Calls Tryz.prog 102 #[.pointer (some ⟨B,0,none⟩)] w fun e w'=>e = .returned (.int .i64 (byF l s).1)∧SrXE B w v l (byF l s).2 w':=by
 obtain ⟨at_,seed⟩:=s
 obtain ⟨hS,ha0,kO,hs,c1,c2⟩:=h
 simp only at hS ha0 kO hs c1 c2 hm
 have HS:=hide hS
 obtain ⟨xN,xB,hbts,hcode,-,f1,f2⟩:=hS
 have uK:=hide (fun w1 h=>src_step (w1:=w1) (U HS) ha0 (Int.le_refl _) c1 c2 h)
 obtain ⟨a,A,rfl,hl,hc⟩:=xN
 have HB:=hide hbts
 clear hbts hc c2 f2 xB
 have oA:=hide (byF.eq_1 l ⟨at_,seed⟩)
 simp only at oA
 generalize byF l ⟨at_,seed⟩ = hj at oA ⊢
 go_enter Tryz.func102,Tryz.ntmps102
 go_wp2_with fail
 generalize hw1:w.setCell ⟨B,1,none⟩ (.int .i64 (at_ + 1)) = w1
 obtain ⟨hE,d0,d1,d2,g2,hrd1⟩:=U uK w1 hw1
 have HE:=hide hE
 have jG:Hid (SrXE B w (.slice a l.length A) l ⟨at_ + 1,seed⟩ w1):=⟨⟨hE.1,by show 0 ≤ at_ + 1; omega,kO,hs,d1,d2⟩,hE.2⟩
 obtain ⟨a',pB,e',_,hc⟩:=hrd1
 simp only [Value.slice.injEq,true_and] at e'
 obtain ⟨rfl,rfl⟩:=e'
 clear hE uK hw1 c1 f1 hcode
 by_cases Q:at_ + 1 ≤ l.length
 ·rw [if_pos Q] at oA
  have hc':=hc (by intro e; subst e; simp at Q; omega)
  obtain ⟨b,off,rfl,xr⟩:=hc'
  obtain ⟨k,rfl⟩:=Int.eq_ofNat_of_zero_le ha0
  simp only [Int.toNat_natCast] at oA
  have pf:=xr k (by omega)
  have hbk:=bts_get (U HB) k
  generalize hx:l.getD k 0 = x at *
  have HX:=hide hx
  clear hx
  obtain ⟨hx0,hx1⟩:=hbk
  have h1'':(k:Int) < l.length:=by omega
  clear hc xr
  go_quiet (fail)
  go_wp2_with fail
  have hd:Rd w1 (.slice (some ⟨b,off,none⟩) l.length A) l:=(U HE).1.rd
  go_region
  all_goals
   generalize hw2:(w1.drewN _).setCell ⟨B,2,none⟩ (.int .i64 ((seed * 31 + x + 7) % 2147483648)) = w2
   obtain ⟨hE2,t0,t1,t2,hrd2⟩:=seed_step (src_drew (U HE) _) d1 (by omega) (by omega) hw2
   have HX2:Hid (SrXE B w (.slice (some ⟨b,off,none⟩) l.length A) l ⟨(k:Int) + 1,(seed * 31 + x + 7) % 2147483648⟩ w2):=⟨⟨hE2.1,by show (0:Int) ≤ k + 1; omega,by show 0 ≤ (seed * 31 + x + 7) % 2147483648; omega,by show (seed * 31 + x + 7) % 2147483648 < 2147483648; omega,t1,t2⟩,hE2.2⟩
   obtain ⟨a2,cap2,e2,_,hc2⟩:=hrd2
   obtain ⟨b2,off2,e3,hc3⟩:=hc2 (by intro e; subst e; simp at h1''; omega)
   simp only [Value.slice.injEq,true_and] at e2
   obtain ⟨rfl,rfl⟩:=e2
   simp only [Option.some.injEq,Addr.mk.injEq,and_true] at e3
   obtain ⟨rfl,rfl⟩:=e3
   have tck:=hc3 k (by omega)
   have hx:l.getD k 0 = x:=U HX
   rw [hx] at tck
   clear hE2 hc2 hc3 hw2 d0 d1 d2 pf hx hd
   go_wp2_with fail
   go_quiet (fail)
   go_wp2_with fail
   go_ret
   rw [U oA]
   exact ⟨rfl,srX_drew (U HX2) _⟩
 ·rw [if_neg Q] at oA
  have oH:(l.length:Int) < at_ + 1:=by omega
  clear hc
  by_cases N:3000 < at_ + 1
  ·rw [if_pos N] at oA
   go_quiet (fail)
   go_wp2_with fail
   go_ret
   rw [U oA]
   exact ⟨rfl,srX_drew (U jG) _⟩
  ·rw [if_neg N] at oA
   have oY:Hid (∀ q,SrXE B w (.slice a l.length A) l ⟨at_ + 1,(seed * 1103515245 + 12345) % 2147483648⟩ ((w1.drewN q).setCell ⟨B,2,none⟩ (.int .i64 ((seed * 1103515245 + 12345) % 2147483648)))):=fun q=>by
    obtain ⟨hE2,t0,t1,t2,-⟩:=seed_step (src_drew (U HE) q) d1 (s:=(seed * 1103515245 + 12345) % 2147483648) (by omega) (by omega) rfl
    exact ⟨⟨hE2.1,by show 0 ≤ at_ + 1; omega,by show 0 ≤ (seed * 1103515245 + 12345) % 2147483648; omega,by show (seed * 1103515245 + 12345) % 2147483648 < 2147483648; omega,t1,t2⟩,hE2.2⟩
   go_quiet (fail)
   go_wp2_with fail
   go_ret
   rw [U oA]
   exact ⟨rfl,U oY _⟩

theorem bJ (w:World) (o:Obj) (row:Option Nat):w.grownBy (w.alloc o) row :=
 ⟨rfl,rfl,rfl,by simp,fun k hk _=>((Below.refl _ w).alloc tg o).block k hk⟩
theorem bY {B:Nat} {w:World} {v:Value} {l:List Int} {m:Int} (h:Src B w v l m):B < w.heap.size:=yL w _ h.code
theorem src_alloc {B:Nat} {w0 w:World} {v:Value} {l:List Int} {m:Int} (h:bE B w0 v l m w) (o:Obj):bE B w0 v l m (w.alloc o):=by
 have hB:=bY h.1
 obtain ⟨a,s,k1,k2,k3,k4,k5,k6⟩:=h.1.cells
 have e:∀ i,(w.alloc o).cell? (J B i) = w.cell? (J B i):=fun i=>yW _ _ (J B i) hB
 have f:∀ i,(w.alloc o).frozen? (J B i) = w.frozen? (J B i):=fun i=>World.frozen?_of_block (a:=(J B i)) ((bJ w o none).block B hB (by simp))
 exact ⟨⟨rd_grown h.1.rd (bJ w o _) h.1.ne,h.1.ne,h.1.bts,(e 0).trans h.1.code,⟨a,s,k1,k2,k3,k4,(e 1).trans k5,(e 2).trans k6⟩,(f 1).trans h.1.free1,(f 2).trans h.1.free2⟩,zZ h.2 (bJ w o _)⟩
theorem rd_new {w:World} {v:Value} {l:List Int} (h:Rd w v l) (xB:l ≠ []):v.ownBlock ≠ some w.heap.size:=by
 obtain ⟨a,A,rfl,_,hc⟩:=h
 obtain ⟨b,off,rfl,xr⟩:=hc xB
 have:=yL w _ (xr 0 (List.length_pos_iff.2 xB))
 simp only [Value.ownBlock,ne_eq,Option.some.injEq]
 intro e
 simp only at this
 omega
theorem own_below_grown {w w1 w':World} {B:Nat} (Q:yn w w1) (hB:w.heap.size ≤ B) (N:w1.grownBy w' (some B)):yn w w' :=
 Q.trans (gr_below N hB Q.size)

def nanB (x:Nat):Bool:=FloatKind.f64.format.order x x != some Ordering.eq
theorem datum_self (d:Ieee.Datum) (h:¬ d.isNaN = true):d.order d = some Ordering.eq:=by
 cases d with
 | nan s f=>simp [Ieee.Datum.isNaN] at h
 | infinity s=>cases s <;> rfl
 | number s m i=>simp [Ieee.Datum.order,Std.ReflCmp.compare_self]
theorem fbits (x:Nat) (w:World):(callFunc 168 #[yj x]).run Tryz.prog w = .ok (.value (.int .u64 x)) w:=by
 rw [run_callFunc_extern (e:=Extern.MathFloatBits.float64bits) Tryz.func168 (by kernel_rfl) (by kernel_rfl) (by kernel_rfl) (by kernel_rfl)]
 rfl
theorem isNaN_any (x:Nat) (w:World) :
  Calls Tryz.prog 167 #[yj x] w fun e w'=>e = ym (.bool (nanB x))∧w' = w:=by
 go_enter Tryz.func167,Tryz.ntmps167
 go_wp2
 go_ret
 exact ⟨rfl,rfl⟩
theorem sub_one (W:World):(binOp .sub 41 (yj 4607182418800017408) (yj 4607182418800017408)).run Tryz.prog W = .ok (yj 0) W:=by
 have h:FloatKind.f64.format.sub 4607182418800017408 4607182418800017408 = some 0:=by kernel_rfl
 simp [binOp,Op.floatArith,h]
theorem neg_zero (W:World):(Op.unary .neg (yj 0)).run Tryz.prog W = .ok (yj 9223372036854775808) W:=by
 kernel_rfl
theorem one_zero (W:World):(binOp .quo 41 (yj 4607182418800017408) (yj 0)).run Tryz.prog W = .ok (yj 9218868437227405312) W:=by
 have h:FloatKind.f64.format.div 4607182418800017408 0 = some 9218868437227405312:=by kernel_rfl
 simp [binOp,Op.floatArith,h]
theorem less_zero (W:World):(binOp .quo 41 (yj 13830554455654793216) (yj 0)).run Tryz.prog W = .ok (yj 18442240474082181120) W:=by
 have h:FloatKind.f64.format.div 13830554455654793216 0 = some 18442240474082181120:=by kernel_rfl
 simp [binOp,Op.floatArith,h]
def nanOf (W:World):Nat:=(Question.nanBits .f64 0 0).cut (W.tape W.drawn (.nanBits .f64 0 0))
theorem zero_zero (W:World):(binOp .quo 41 (yj 0) (yj 0)).run Tryz.prog W = .ok (yj (nanOf W)) W.drew:=by
 have h:FloatKind.f64.format.div 0 0 = none:=by kernel_rfl
 simp [binOp,Op.floatArith,h,nanOf,choose]
 rfl
theorem zero_any (w:World):Calls Tryz.prog 163 #[] w fun e w'=>e = ym (yj 0)∧w' = w:=by
 have h:=sub_one
 go_enter Tryz.func163,Tryz.ntmps163
 go_wp2_with fail
 go_ret
 exact ⟨rfl,rfl⟩
theorem frombitsS (n:Int) (w:World):(callFunc 169 #[.int .u64 n]).run Tryz.prog w = .ok (.value (yj n.toNat)) w:=by
 rw [run_callFunc_extern (e:=Extern.MathFloatBits.float64frombits) Tryz.func169 (by kernel_rfl) (by kernel_rfl) (by kernel_rfl) (by kernel_rfl)]
 rfl
theorem zb {C:Nat} {w w':World} {b o:Nat} {cs:List Value} (h:w.rangeAt b o cs) (X:Below C w w') (hC:b < C):w'.rangeAt b o cs :=
 fun j v hv=>(X.cell (p:=(J b (o + j))) hC).trans (h j v hv)
theorem zg {C:Nat} {w w':World} {b o n:Nat} (h:w.there b o n) (X:Below C w w') (hC:b < C):w'.there b o n :=
 fun j R=>⟨by rw [X.cell (p:=(J b (o + j))) hC]; exact (h j R).1,by rw [X.frozen (p:=(J b (o + j))) hC]; exact (h j R).2⟩
theorem zu {G:Option Nat} {w w':World} {b o:Nat} {cs:List Value} (h:w.rangeAt b o cs) (hg:w.grownBy w' G) (X:b < w.heap.size) (xB:some b ≠ G):w'.rangeAt b o cs :=
 fun j v hv=>(yR (a:=(J b (o + j))) (hg.block b X xB)).trans (h j v hv)
theorem bH {G:Option Nat} {w w':World} {b o n:Nat} (h:w.there b o n) (hg:w.grownBy w' G) (X:b < w.heap.size) (xB:some b ≠ G):w'.there b o n :=
 fun j R=>⟨by rw [yR (a:=(J b (o + j))) (hg.block b X xB)]; exact (h j R).1,by rw [World.frozen?_of_block (a:=(J b (o + j))) (hg.block b X xB)]; exact (h j R).2⟩
theorem aW {w w':World} {B:Nat} {G:Option Nat} (h:Below B w w') (hB:w.heap.size ≤ B):w.grownBy w' G :=
 ⟨h.os,h.tape,h.output,h.size,fun k hk _=>h.block k (by omega)⟩
theorem gr_below' {w w':World} {G:Option Nat} {B:Nat} (h:w.grownBy w' G) (hG:∀ g,G = some g→B ≤ g) (hs:B ≤ w.heap.size):Below B w w' :=
 ⟨h.os,h.tape,h.output,h.size,fun k hk=>h.block k (by omega) (fun e=>by have:=hG k e.symm; omega)⟩
section
variable {α:Type} (f:α→List Value) (sz:Nat)

def RdR (w:World) (v:Value) (l:List α):Prop :=
 ∃ (a:Option Addr) (A:Nat),v = .slice a l.length A∧l.length ≤ 1073741824 ∧
  (l ≠ []→∃ b off,a = some (J b off)∧b < w.heap.size∧∀ i c,l[i]? = some c→w.rangeAt b (off + i * sz) (f c))
def OwnR (B:Nat) (w:World) (v:Value) (l:List α):Prop :=
 ∃ (a:Option Addr) (A:Nat),v = .slice a l.length A∧l.length ≤ 1073741824 ∧
  (l ≠ []→∃ g,a = some (J g 0)∧B ≤ g∧g < w.heap.size∧(∀ i c,l[i]? = some c→w.rangeAt g (0 + i * sz) (f c))∧w.there g 0 (l.length * sz))
variable {f sz}

theorem cE {B:Nat} {w:World} {v:Value} {l:List α} (h:OwnR f sz B w v l):RdR f sz w v l:=by
 obtain ⟨a,A,rfl,hl,h⟩:=h
 refine ⟨a,A,rfl,hl,fun xB=>?_⟩
 obtain ⟨g,rfl,_,N,h3,_⟩:=h xB
 exact ⟨g,0,rfl,N,h3⟩
theorem zn {C:Nat} {w w':World} {v:Value} {l:List α} (h:RdR f sz w v l) (X:Below C w w') (hC:w.heap.size ≤ C):RdR f sz w' v l:=by
 obtain ⟨a,A,rfl,hl,h⟩:=h
 refine ⟨a,A,rfl,hl,fun xB=>?_⟩
 obtain ⟨b,off,rfl,Q,N⟩:=h xB
 exact ⟨b,off,rfl,yK Q X.size,fun i c hc=>zb (N i c hc) X (yK Q hC)⟩
theorem zo {B:Nat} {w:World} (b:Nat) (X:B ≤ b):∀ (vs:List Value) (o:Nat) (wr:World),Below B w wr→Below B w (wr.setCells b o vs)
 | [],_,_,h=>h
 | v :: r,o,wr,h=>by rw [World.setCells]; exact zo b X r (o + 1) _ (h.setCell (show B ≤ ((J b o):Addr).block from X) v)
theorem bZ (b:Nat):∀ (vs:List Value) (o:Nat) (wr:World),(wr.setCells b o vs).heap.size = wr.heap.size
 | [],_,_=>rfl
 | v :: r,o,wr=>by rw [World.setCells,bZ b r (o + 1)]; simp [World.setCell]
theorem cJ {w:World} {g n t:Nat} {xu:Array Value} (hg:w.heap[g]? = some (.cells xu t (0,0))) (hn:n ≤ xu.size):w.there g 0 n:=fun j R =>
 ⟨by rw [cell_of_row w g (0 + j) xu t (0,0) hg,Array.getElem?_eq_getElem (by omega)]; rfl,by simp [World.frozen?,hg]⟩
theorem flat_get (hf:∀ c,(f c).length = sz):∀ (l:List α) (i j:Nat) (c:α),l[i]? = some c→j < sz→(l.flatMap f)[i * sz + j]? = (f c)[j]?
 | [],_,_,_,h,_=>by simp at h
 | a :: l,0,j,c,h,R=>by
  simp at h; subst h
  rw [List.flatMap_cons,List.getElem?_append_left (by rw [hf]; omega)]; simp
 | a :: l,i + 1,j,c,h,R=>by
  simp at h
  rw [List.flatMap_cons,List.getElem?_append_right (by rw [hf,Nat.add_mul]; omega),hf,← flat_get hf l i j c h R]
  congr 1
  rw [Nat.add_mul]; omega
theorem zK (hf:∀ c,(f c).length = sz):∀ (l:List α),(l.flatMap f).length = l.length * sz
 | []=>by simp
 | a :: l=>by rw [List.flatMap_cons,yQ,hf,zK hf l,List.length_cons,Nat.add_mul]; omega
theorem bK {B e:Nat} {w:World} {v:Value} {l:List α} (hf:∀ c,(f c).length = sz) (hl:l.length ≤ 1073741824) (h:w.ownsRow B e sz v l.length (l.flatMap f)):OwnR f sz B w v l:=by
 rcases h.2 with ⟨rfl,h0⟩ | ⟨g,A,xu,rfl,X,hg,vW,_,hcur,htake⟩
 ·exact ⟨none,0,by rw [h0],hl,fun xB=>absurd (List.length_eq_zero_iff.1 h0) xB⟩
 ·have jI:=Nat.mul_le_mul_right sz vW
  refine ⟨_,A,rfl,hl,fun _=>⟨g,rfl,X,(yZ.1 hg).1,fun i c hc j u hu=>?_,cJ hg (by omega)⟩⟩
  have R:j < sz:=by rw [← hf c]; exact (yH.1 hu).1
  have N:=flat_get hf l i j c hc R
  have xL:i * sz + j < l.length * sz:=by
   have:=Nat.mul_le_mul_right sz (show i + 1 ≤ l.length from (yH.1 hc).1)
   rw [Nat.add_mul] at this; omega
  rw [← htake,List.getElem?_take,if_pos xL] at N
  rw [cell_of_row w g _ xu e (0,0) hg,Nat.zero_add]
  simpa using N.trans hu
end
end Go.Proofs.YtbakanofkghmiaaGreat
