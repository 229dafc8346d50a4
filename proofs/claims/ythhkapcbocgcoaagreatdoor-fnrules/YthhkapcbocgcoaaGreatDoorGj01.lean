/-
  Small facts that all walks of this seat lean on: facts kept from the walk, an ending's value, a text's bytes as a list.
-/
import Derived.Test.YthhkapcbocgcoaaGreatDoorRows
import Derived.WalkKit
import Derived.Below
import Derived.Deep.MidRow
import Derived.OpenShut
import Derived.Deep.QuietTactic
import Derived.BigQuiet
import Derived.WalkSmall
import Derived.WalkSpells
import Derived.WalkLawsBesides
import Derived.Deep.RegionWith
import Derived.Laws.Externs
import Derived.Handy
set_option linter.unusedVariables false
set_option maxHeartbeats 6400000
set_option maxRecDepth 100000
namespace Go.Proofs.YthhkapcbocgcoaaGreatDoor
open Go.RowKit
theorem hide {p:Prop} (h:p):Hid p:=h
theorem U {p:Prop} (h:Hid p):p:=h
theorem zo {a b:Bool} (h:a = b):Ending.returned (.bool a) = .returned (.bool b):=by rw [h]
theorem zw {k:IntKind} {a b:Int} (h:a = b):Ending.returned (.int k a) = .returned (.int k b):=by rw [h]
theorem get_nat (s:ByteArray) (k:Nat) (h:k < s.size):s[k] = s.data.toList[k]'(by simpa using h):=rfl
theorem data_len (s:ByteArray):s.data.toList.length = s.size:=by simp
abbrev H (n : Int) : Value := .int .i64 n
abbrev J (b o : Nat) : Addr := ⟨b, o, none⟩
abbrev I (b o : Nat) : Value := .pointer (some ⟨b, o, none⟩)
theorem hU {n : Nat} : n ≤ n := Nat.le_refl n
theorem ya {hb : Type} {a b : hb} (h : some a = some b) : a = b := Option.some.inj h
theorem M {p : Prop} (h : p) : Hid p := h
theorem yh {o : Option Value} {v : Value} (h : o = some v) : ∀ u, o = some u → v = u := fun u hu => Option.some.inj (h.symm.trans hu)
theorem yi {o : Option (Option Value)} {v : Value} (h : o = some (some v)) : ∀ u, o = some (some u) → v = u := fun u hu => Option.some.inj (Option.some.inj (h.symm.trans hu))
abbrev yj (n : Nat) : Value := .float .f64 n
abbrev yk (b : ByteArray) : Value := .string b
abbrev Z : Value := undef
abbrev O (a : Array Value) (t : TypeId) : Obj := Obj.cells a t
theorem ic {P : Program} {h1 : Exit → Act → World → Prop} {a : Act} {w : World} {x y : Code} (h : ∀ xh : Act → World → Prop, Hid (∀ a w, y.wp P h1 a w → xh a w) → x.wp P (Exit.then xh h1) a w) : (Code.seq x y).wp P h1 a w := wp_seq_k h
theorem gZ (w : World) (o : Obj) : Below w.heap.size w (w.alloc o) := (Below.refl _ _).alloc (Nat.le_refl _) _
theorem ia {w w1 w2 : World} (h : Below w.heap.size w w1) (A : Below w1.heap.size w1 w2) : Below w.heap.size w w2 := h.trans (A.mono h.size)
abbrev yv (a b c d e f g : Int) (p : Nat) (s : ByteArray) (h i j k l : Int) : List Value := [.int .i64 a, .int .i64 b, .int .i64 c, .int .i64 d, .int .i64 e, .int .i64 f, .int .i64 g, .float .f64 p, .string s, .int .i64 h, .int .i64 i, .int .i64 j, .int .i64 k, .int .i64 l]
abbrev yw (a b c d e : Int) (s : ByteArray) : List Value := [.int .i64 a, .int .i64 b, .int .i64 c, .int .i64 d, .int .i64 e, .string s]
abbrev yx (a b c d e f : Int) (p : Nat) (s : ByteArray) : List Value := [.int .i64 a, .int .i64 b, .int .i64 c, .int .i64 d, .int .i64 e, .int .i64 f, .float .f64 p, .string s]
abbrev ym (v : Value) : Ending := .returned v
abbrev yn (w w1 : World) : Prop := Below w.heap.size w w1
abbrev yp (w : World) (o : Nat) : Value := .pointer (some ⟨w.heap.size, o, none⟩)
abbrev yq (w : World) (o : Nat) : Addr := ⟨w.heap.size, o, none⟩
theorem yC {W : World} {b : Nat} {v0 v1 v2 v3 v4 : Value} (h : W.rangeAt b 0 [v0, v1, v2, v3, v4]) : W.cell? ⟨b, 0, none⟩ = some v0 ∧ W.cell? ⟨b, 1, none⟩ = some v1 ∧ W.cell? ⟨b, 2, none⟩ = some v2 ∧ W.cell? ⟨b, 3, none⟩ = some v3 ∧ W.cell? ⟨b, 4, none⟩ = some v4 := ⟨h 0 _ rfl, h 1 _ rfl, h 2 _ rfl, h 3 _ rfl, h 4 _ rfl⟩
theorem yD {W : World} {b : Nat} {v0 v1 v2 v3 v4 v5 : Value} (h : W.rangeAt b 0 [v0, v1, v2, v3, v4, v5]) : W.cell? ⟨b, 0, none⟩ = some v0 ∧ W.cell? ⟨b, 1, none⟩ = some v1 ∧ W.cell? ⟨b, 2, none⟩ = some v2 ∧ W.cell? ⟨b, 3, none⟩ = some v3 ∧ W.cell? ⟨b, 4, none⟩ = some v4 ∧ W.cell? ⟨b, 5, none⟩ = some v5 := ⟨h 0 _ rfl, h 1 _ rfl, h 2 _ rfl, h 3 _ rfl, h 4 _ rfl, h 5 _ rfl⟩
theorem yE {W : World} {b : Nat} {v0 v1 v2 v3 v4 v5 v6 v7 : Value} (h : W.rangeAt b 0 [v0, v1, v2, v3, v4, v5, v6, v7]) : W.cell? ⟨b, 0, none⟩ = some v0 ∧ W.cell? ⟨b, 1, none⟩ = some v1 ∧ W.cell? ⟨b, 2, none⟩ = some v2 ∧ W.cell? ⟨b, 3, none⟩ = some v3 ∧ W.cell? ⟨b, 4, none⟩ = some v4 ∧ W.cell? ⟨b, 5, none⟩ = some v5 ∧ W.cell? ⟨b, 6, none⟩ = some v6 ∧ W.cell? ⟨b, 7, none⟩ = some v7 := ⟨h 0 _ rfl, h 1 _ rfl, h 2 _ rfl, h 3 _ rfl, h 4 _ rfl, h 5 _ rfl, h 6 _ rfl, h 7 _ rfl⟩
theorem yF {W : World} {b : Nat} {v0 v1 v2 v3 v4 v5 v6 v7 v8 : Value} (h : W.rangeAt b 0 [v0, v1, v2, v3, v4, v5, v6, v7, v8]) : W.cell? ⟨b, 0, none⟩ = some v0 ∧ W.cell? ⟨b, 1, none⟩ = some v1 ∧ W.cell? ⟨b, 2, none⟩ = some v2 ∧ W.cell? ⟨b, 3, none⟩ = some v3 ∧ W.cell? ⟨b, 4, none⟩ = some v4 ∧ W.cell? ⟨b, 5, none⟩ = some v5 ∧ W.cell? ⟨b, 6, none⟩ = some v6 ∧ W.cell? ⟨b, 7, none⟩ = some v7 ∧ W.cell? ⟨b, 8, none⟩ = some v8 := ⟨h 0 _ rfl, h 1 _ rfl, h 2 _ rfl, h 3 _ rfl, h 4 _ rfl, h 5 _ rfl, h 6 _ rfl, h 7 _ rfl, h 8 _ rfl⟩
theorem yG {W : World} {b : Nat} {v0 v1 v2 v3 v4 v5 v6 v7 v8 v9 v10 v11 v12 v13 : Value} (h : W.rangeAt b 0 [v0, v1, v2, v3, v4, v5, v6, v7, v8, v9, v10, v11, v12, v13]) : W.cell? ⟨b, 0, none⟩ = some v0 ∧ W.cell? ⟨b, 1, none⟩ = some v1 ∧ W.cell? ⟨b, 2, none⟩ = some v2 ∧ W.cell? ⟨b, 3, none⟩ = some v3 ∧ W.cell? ⟨b, 4, none⟩ = some v4 ∧ W.cell? ⟨b, 5, none⟩ = some v5 ∧ W.cell? ⟨b, 6, none⟩ = some v6 ∧ W.cell? ⟨b, 7, none⟩ = some v7 ∧ W.cell? ⟨b, 8, none⟩ = some v8 ∧ W.cell? ⟨b, 9, none⟩ = some v9 ∧ W.cell? ⟨b, 10, none⟩ = some v10 ∧ W.cell? ⟨b, 11, none⟩ = some v11 ∧ W.cell? ⟨b, 12, none⟩ = some v12 ∧ W.cell? ⟨b, 13, none⟩ = some v13 := ⟨h 0 _ rfl, h 1 _ rfl, h 2 _ rfl, h 3 _ rfl, h 4 _ rfl, h 5 _ rfl, h 6 _ rfl, h 7 _ rfl, h 8 _ rfl, h 9 _ rfl, h 10 _ rfl, h 11 _ rfl, h 12 _ rfl, h 13 _ rfl⟩
abbrev yH := @List.getElem?_eq_some_iff
abbrev yI := @List.getElem?_eq_getElem
abbrev yJ := @List.getElem?_replicate
abbrev yK := @Nat.lt_of_lt_of_le
abbrev yL := @World.block_lt_of_cell?
abbrev yM := @World.cell?_setCell_other
abbrev yN := @World.cell?_setCell_same
abbrev yO := @Nat.le_trans
abbrev yP := @List.mem_of_getElem?
abbrev yQ := @List.length_append
abbrev yR := @World.cell?_of_block
abbrev yS := @World.grownBy.refl
abbrev yT := @Below.heap_setCell
abbrev yU := @List.take_succ_cons
abbrev yV := @List.drop_succ_cons
abbrev yW := @World.cell?_alloc_lt
abbrev yX := @List.getElem?_set_ne
abbrev yY := @World.rangeAt_setCells_same
abbrev yZ := @Array.getElem?_eq_some_iff
abbrev xa := @List.take_of_length_le
abbrev xb := @List.drop_of_length_le
abbrev xc := @World.there_setCells
abbrev xd := @List.drop_eq_getElem_cons
abbrev xe := @beq_eq_false_iff_ne
abbrev xf := @Bool.and_eq_true
abbrev xg := @decide_eq_true_eq
theorem ye {L : Array Edge} {x : List Bool} (h : ∀ e ∈ L, Region.binds .any e = true → x[e.on]? = some true) (j : Nat) (hm : (L.toList.any fun e => e.on == j && Region.binds .any e) = true) : x[j]? = some true := by
  obtain ⟨e, he, hp⟩ := List.any_eq_true.1 hm
  rw [Bool.and_eq_true] at hp
  have Q : e.on = j := by simpa using hp.1
  have := h e (by simpa using he) hp.2
  rw [Q] at this
  exact this
def Rd (w:World) (v:Value) (l:List Int):Prop :=
 ∃ (a:Option Addr) (cap:Nat),v = .slice a l.length cap∧l.length ≤ 1073741824 ∧
  (l ≠ []→∃ b off,a = some (J b off)∧∀ i,i < l.length→w.cell? (J b (off + i)) = some (.int .u8 (l.getD i 0)))
theorem zA {a b c:World} {row:Option Nat} (h:a.grownBy b row) (k:b.grownBy c row):a.grownBy c row :=
 ⟨k.os.trans h.os,k.tape.trans h.tape,k.output.trans h.output,yO h.size k.size,
  fun i hi xC=>(k.block i (yK hi h.size) xC).trans (h.block i hi xC)⟩
theorem ei (w:World) (a:Addr) (u:Value):w.grownBy (w.setCell a u) (some a.block) :=
 ⟨rfl,rfl,rfl,by simp [World.setCell],fun k _ xC=>yT _ _ _ _ (fun e=>xC (by rw [e]))⟩
theorem cS (w:World) (n:Nat) (row:Option Nat):w.grownBy (w.drewN n) row:=⟨rfl,rfl,rfl,Nat.le_refl _,fun _ _ _=>rfl⟩
theorem gr_below {w w':World} {g B:Nat} (h:w.grownBy w' (some g)) (hB:B ≤ g) (hs:B ≤ w.heap.size):Below B w w' :=
 ⟨h.os,h.tape,h.output,h.size,fun k E=>h.block k (by omega) (by simp; omega)⟩
theorem bZ {g a b:Nat} (h:a ≠ b):((J g a):Addr) ≠ (J g b):=by
 intro e; injection e; exact h (by assumption)
def Own (B:Nat) (w:World) (v:Value) (l:List Int):Prop :=
 ∃ g cap,v = .slice (some (J g 0)) l.length cap∧B ≤ g∧g < w.heap.size∧l.length ≤ 1073741824 ∧
  (∀ i,i < l.length→w.cell? (J g (0 + i)) = some (.int .u8 (l.getD i 0)))∧∀ i,i < l.length→w.frozen? (J g (0 + i)) = false
theorem Tryz.infoByte:(Tryz.prog.info? 5).map (fun i=>(i.zero,i.size,i.bytes)) = some (some (.int .u8 0),1,1):=by kernel_rfl
def OwnT (B:Nat) (w:World) (v:Value) (l:List Int):Prop :=
 ∃ g cap xz t,v = .slice (some (J g 0)) l.length cap∧B ≤ g∧w.heap[g]? = some (.cells xz t (0,0))∧l.length ≤ cap∧cap ≤ xz.size∧cap ≤ maxLen∧l.length ≤ 1073741824 ∧
  xz.toList.take l.length = l.map (Value.int .u8)
theorem cell_head {w:World} {g t:Nat} {xz:Array Value} {l:List Int} (hg:w.heap[g]? = some (.cells xz t (0,0))) (ht:xz.toList.take l.length = l.map (Value.int .u8)) {i:Nat} (hi:i < l.length) :
  w.cell? (J g i) = some (.int .u8 (l.getD i 0)):=by
 rw [cell_of_row w g i xz t (0,0) hg]
 have Q:(xz.toList.take l.length)[i]? = (l.map (Value.int .u8))[i]?:=by rw [ht]
 rw [List.getElem?_take,if_pos hi,List.getElem?_map,yI hi] at Q
 simpa [hi] using Q
theorem OwnT.own {B:Nat} {w:World} {v:Value} {l:List Int} (h:OwnT B w v l):Own B w v l:=by
 obtain ⟨g,cap,xz,t,rfl,A,hg,_,_,_,hl,ht⟩:=h
 exact ⟨g,cap,rfl,A,(yZ.1 hg).1,hl,fun i hi=>by rw [Nat.zero_add]; exact cell_head hg ht hi,fun i _=>by simp [World.frozen?,hg]⟩
theorem OwnT.ge {B:Nat} {w:World} {v:Value} {l:List Int} (h:OwnT B w v l):∀ k,v.ownBlock = some k→B ≤ k:=by
 obtain ⟨g,cap,xz,t,rfl,A,_⟩:=h
 intro k E
 simp [Value.ownBlock] at E
 omega
theorem ownT_row {B:Nat} {w:World} {v:Value} {l:List Int} (xC:0 < l.length) (xD:l.length ≤ 1073741824)
  (h:w.ownsRow B 5 1 v l.length (l.map (Value.int .u8))):OwnT B w v l:=by
 rcases h.2 with ⟨_,h0⟩ | ⟨g,cap,xz,rfl,A,hg,Q,D,hcur,oj⟩
 ·omega
 ·exact ⟨g,cap,xz,_,rfl,A,hg,Q,by omega,D,xD,by simpa using oj⟩
def Arr (yb B:Nat) (w wr:World) (done:List Int):Prop :=
 ∃ xz t,wr.heap[B]? = some (.cells xz t (0,0))∧xz.size = yb∧done.length ≤ yb∧xz.toList.take done.length = done.map (Value.int .u8)∧Below B w wr
theorem Arr.below {yb B:Nat} {w wr:World} {done:List Int} (h:Arr yb B w wr done):Below B w wr:=by
 obtain ⟨_,_,_,_,_,_,h⟩:=h; exact h
theorem Arr.lt {yb B:Nat} {w wr:World} {done:List Int} (h:Arr yb B w wr done):B < wr.heap.size:=by
 obtain ⟨_,_,h,_⟩:=h; exact (yZ.1 h).1
theorem Arr.some {yb B:Nat} {w wr:World} {done:List Int} (h:Arr yb B w wr done) {j:Nat} (hj:j < yb):∃ v,wr.cell? (J B j) = .some v:=by
 obtain ⟨xz,t,Q,D,_⟩:=h
 exact ⟨_,(cell_of_row wr B j xz t (0,0) Q).trans (Array.getElem?_eq_getElem (by omega))⟩
theorem Arr.free {yb B:Nat} {w wr:World} {done:List Int} (h:Arr yb B w wr done) (j:Nat):wr.frozen? (J B j) = false:=by
 obtain ⟨xz,t,Q,_⟩:=h
 simp [World.frozen?,Q]
theorem arr_start {yb:Nat} (w:World) (c:Array Value) (t:TypeId) (h:c.size = yb):Arr yb w.heap.size w (w.alloc (.cells c t)) [] :=
 ⟨c,t,heap_alloc_new w _,h,Nat.zero_le _,rfl,gZ _ _⟩
theorem arr_step {yb B:Nat} {w wr:World} {done:List Int} (x:Int) (h:Arr yb B w wr done) (hM:done.length < yb):Arr yb B w (wr.setCell (J B done.length) (.int .u8 x)) (done ++ [x]):=by
 obtain ⟨xz,t,Q,D,X,h4,h5⟩:=h
 refine ⟨xz.setIfInBounds done.length (.int .u8 x),t,by simp [World.setCell,Array.getElem?_modify,Q],by simpa using D,by simp; omega,?_,h5.setCell hU _⟩
 rw [yQ,List.length_singleton,List.take_succ_eq_append_getElem (by simp; omega)]
 simp only [Array.toList_setIfInBounds,List.map_append,List.map_cons,List.map_nil]
 rw [List.take_set_of_le hU,h4]
 simp
theorem arr_own {yb B cap:Nat} {w wr:World} {l:List Int} (h:Arr yb B w wr l) (hc:cap = yb) (hM':yb ≤ 1073741824):OwnT B wr (.slice (some (J B 0)) l.length cap) l:=by
 obtain ⟨xz,t,Q,D,X,h4,_⟩:=h
 exact ⟨B,cap,xz,t,rfl,Nat.le_refl _,Q,by omega,by omega,by unfold maxLen; omega,by omega,h4⟩
theorem own_rd {B:Nat} {w:World} {v:Value} {l:List Int} (h:Own B w v l):Rd w v l:=by
 obtain ⟨g,cap,rfl,_,_,hl,hc,_⟩:=h
 exact ⟨_,cap,rfl,hl,fun _=>⟨g,0,rfl,hc⟩⟩
theorem dI {B:Nat} {a w:World} (h:Below B a w) (n:Nat):Below B a (w.drewN n):=h.trans ⟨rfl,rfl,rfl,Nat.le_refl _,fun _ _=>rfl⟩
def Bts (l:List Int):Prop:=∀ x ∈ l,0 ≤ x∧x ≤ 255
theorem bts_get {l:List Int} (h:Bts l) (k:Nat):0 ≤ l.getD k 0∧l.getD k 0 ≤ 255:=by
 by_cases E:k < l.length
 ·have e:l.getD k 0 = l[k]:=by simp [E]
  rw [e]; exact h _ (List.getElem_mem E)
 ·simp [Nat.le_of_not_lt E]
theorem rd_of_row {w:World} {a:Option Addr} {len cap:Nat} {zs:List Int}
  (h:(a = none∧len = 0∧cap = 0∧zs = []) ∨ ∃ x,a = some x∧len ≤ cap∧cap ≤ maxLen∧zs.length = cap∧(∀ i,i < zs.length→w.cell? (x.add i) = some (.int .u8 (zs.getD i 0)))∧∀ n ∈ zs,(Lit.int .u8 n).wf = true)
  (hl:len ≤ 1073741824):(zs.take len).length = len∧Rd w (.slice a len cap) (zs.take len)∧Bts (zs.take len):=by
 rcases h with ⟨rfl,rfl,rfl,rfl⟩ | ⟨x,rfl,Q,_,hz,hc,hw⟩
 ·exact ⟨rfl,⟨none,0,rfl,by simp,fun h=>absurd rfl h⟩,fun x hx=>by simp at hx⟩
 ·have xD:(zs.take len).length = len:=by rw [List.length_take]; omega
  refine ⟨xD,⟨some x,cap,by rw [xD],by omega,fun xC=>?_⟩,fun n hn=>bounds_u8 (hw n (List.mem_of_mem_take hn))⟩
  have hp:0 < len:=by
   rcases Nat.eq_zero_or_pos len with h0 | h0
   ·subst h0; simp at xC
   ·exact h0
  obtain ⟨b,off,spot⟩:=x
  have h0:=hc 0 (by omega)
  have hspot:spot = none:=by simpa [Addr.add] using World.cell?_spot h0
  subst hspot
  refine ⟨b,off,rfl,fun i hi=>?_⟩
  rw [xD] at hi
  have:=hc i (by omega)
  have e:((J b off):Addr).add i = (J b (off + i)):=by unfold Addr.add; split <;> simp_all
  rw [e] at this
  rw [this]
  have e2:(zs.take len).getD i 0 = zs.getD i 0:=by simp [hi]
  rw [e2]
theorem rd_below {B:Nat} {w w':World} {v:Value} {l:List Int} (h:Rd w v l) (A:Below B w w') (hB:w.heap.size ≤ B):Rd w' v l:=by
 obtain ⟨a,cap,rfl,hl,hc⟩:=h
 refine ⟨a,cap,rfl,hl,fun xC=>?_⟩
 obtain ⟨b,off,rfl,xr⟩:=hc xC
 exact ⟨b,off,rfl,fun i hi=>(A.cell (p:=(J b (off + i))) (yK (yL w _ (xr i hi)) hB)).trans (xr i hi)⟩
theorem rd_len {w:World} {v:Value} {l:List Int} (h:Rd w v l):∃ a cap,v = .slice a l.length cap:=by
 obtain ⟨a,cap,rfl,_⟩:=h; exact ⟨a,cap,rfl⟩
theorem take_get (l:List Int) (k:Nat) (h:k < l.length):l.take (k + 1) = l.take k ++ [l.getD k 0]:=by
 rw [List.take_succ_eq_append_getElem h]; simp [h]
theorem rd_grown {w w':World} {v:Value} {l:List Int} {B:Nat} (h:Rd w v l) (hg:w.grownBy w' (some B)) (hB:l ≠ []→v.ownBlock ≠ some B):Rd w' v l:=by
 obtain ⟨a,cap,rfl,hl,hc⟩:=h
 refine ⟨a,cap,rfl,hl,fun xC=>?_⟩
 obtain ⟨b,off,rfl,xr⟩:=hc xC
 have A:some b ≠ some B:=fun e=>hB xC (by simpa [Value.ownBlock] using e)
 exact ⟨b,off,rfl,fun i hi=>(yR (a:=(J b (off + i))) (hg.block b (yL w _ (xr i hi)) A)).trans (xr i hi)⟩
structure Src (B:Nat) (w:World) (v:Value) (l:List Int) (m:Int):Prop where
 rd:Rd w v l
 ne:l ≠ []→v.ownBlock ≠ some B
 bts:Bts l
 code:w.cell? ⟨B,0,none⟩ = some v
 cells:∃ at_ seed:Int,0 ≤ at_∧at_ ≤ m∧0 ≤ seed∧seed < 2147483648∧w.cell? ⟨B,1,none⟩ = some (.int .i64 at_)∧w.cell? ⟨B,2,none⟩ = some (.int .i64 seed)
 free1:w.frozen? ⟨B,1,none⟩ = false
 free2:w.frozen? ⟨B,2,none⟩ = false
def dx (B:Nat) (w:World) (v:Value) (l:List Int) (m:Int) (w':World):Prop:=Src B w' v l m∧w.grownBy w' (some B)
theorem src_refl {B:Nat} {w:World} {v:Value} {l:List Int} {m:Int} (h:Src B w v l m):dx B w v l m w:=⟨h,yS _ _⟩
theorem src_drew {B:Nat} {w0 w:World} {v:Value} {l:List Int} {m:Int} (h:dx B w0 v l m w) (q:Nat):dx B w0 v l m (w.drewN q) :=
 ⟨⟨h.1.rd,h.1.ne,h.1.bts,h.1.code,h.1.cells,h.1.free1,h.1.free2⟩,zA h.2 (cS _ q _)⟩
theorem src_at {B:Nat} {w0 w:World} {v:Value} {l:List Int} {m:Int} (h:dx B w0 v l m w) (a:Int) (h0:0 ≤ a) (ha:a ≤ m + 1):dx B w0 v l (m + 1) (w.setCell (J B 1) (H a)):=by
 obtain ⟨h,hg⟩:=h
 obtain ⟨at0,s0,_,_,k2,k3,Q,D⟩:=h.cells
 have g:=ei w (J B 1) (H a)
 exact ⟨⟨rd_grown h.rd g h.ne,h.ne,h.bts,(yM _ _ _ _ (bZ (by omega))).trans h.code,
  ⟨a,s0,h0,ha,k2,k3,yN _ _ _ Q,(yM _ _ _ _ (bZ (by omega))).trans D⟩,
  (World.frozen?_setCell _ _ _ _).trans h.free1,(World.frozen?_setCell _ _ _ _).trans h.free2⟩,zA hg g⟩
theorem src_seed {B:Nat} {w0 w:World} {v:Value} {l:List Int} {m:Int} (h:dx B w0 v l m w) (s:Int) (h0:0 ≤ s) (hs:s < 2147483648):dx B w0 v l m (w.setCell (J B 2) (H s)):=by
 obtain ⟨h,hg⟩:=h
 obtain ⟨at0,s0,k0,k1,_,_,Q,D⟩:=h.cells
 have g:=ei w (J B 2) (H s)
 exact ⟨⟨rd_grown h.rd g h.ne,h.ne,h.bts,(yM _ _ _ _ (bZ (by omega))).trans h.code,
  ⟨at0,s,k0,k1,h0,hs,(yM _ _ _ _ (bZ (by omega))).trans Q,yN _ _ _ D⟩,
  (World.frozen?_setCell _ _ _ _).trans h.free1,(World.frozen?_setCell _ _ _ _).trans h.free2⟩,zA hg g⟩
theorem src_step {B:Nat} {w w1:World} {v:Value} {l:List Int} {m at_ seed:Int} (h:Src B w v l m) (h0:0 ≤ at_) (ha:at_ ≤ m) (c1:w.cell? (J B 1) = some (H at_)) (c2:w.cell? (J B 2) = some (H seed))
  (hw:w.setCell (J B 1) (H (at_ + 1)) = w1) :
  dx B w v l (m + 1) w1∧w1.cell? (J B 0) = some v∧w1.cell? (J B 1) = some (H (at_ + 1))∧w1.cell? (J B 2) = some (H seed)∧w1.frozen? (J B 2) = false∧Rd w1 v l:=by
 subst hw
 have k:=src_at (src_refl h) (at_ + 1) (by omega) (by omega)
 exact ⟨k,k.1.code,yN _ _ _ c1,(yM _ _ _ _ (bZ (by omega))).trans c2,k.1.free2,k.1.rd⟩
theorem seed_step {B:Nat} {w0 w1 w2:World} {v:Value} {l:List Int} {m at_ s:Int} (h:dx B w0 v l m w1) (d1:w1.cell? (J B 1) = some (H at_)) (h0:0 ≤ s) (hs:s < 2147483648)
  (hw:w1.setCell (J B 2) (H s) = w2) :
  dx B w0 v l m w2∧w2.cell? (J B 0) = some v∧w2.cell? (J B 1) = some (H at_)∧w2.cell? (J B 2) = some (H s)∧Rd w2 v l:=by
 subst hw
 obtain ⟨_,_,_,_,_,_,_,k⟩:=h.1.cells
 have g:=src_seed h s h0 hs
 exact ⟨g,g.1.code,(yM _ _ _ _ (bZ (by omega))).trans d1,yN _ _ _ k,g.1.rd⟩
structure Sr where
 at_:Int
 seed:Int
def byF (l:List Int) (s:Sr):Int × Sr :=
 if s.at_ + 1 ≤ l.length then (l.getD s.at_.toNat 0,⟨s.at_ + 1,(s.seed * 31 + l.getD s.at_.toNat 0 + 7) % 2147483648⟩)
 else if 3000 < s.at_ + 1 then (0,⟨s.at_ + 1,s.seed⟩)
 else ((s.seed * 1103515245 + 12345) % 2147483648 / 65536 % 256,⟨s.at_ + 1,(s.seed * 1103515245 + 12345) % 2147483648⟩)
def nxF (l:List Int) (n:Int) (s:Sr):Int × Sr :=
 if n ≤ 1 then (0,s) else if n ≤ 256 then ((byF l s).1 % n,(byF l s).2)
 else (((byF l s).1 * 65536 + (byF l (byF l s).2).1 * 256 + (byF l (byF l (byF l s).2).2).1) % n,(byF l (byF l (byF l s).2).2).2)
structure SrX (B:Nat) (w:World) (v:Value) (l:List Int) (s:Sr):Prop where
 src:Src B w v l s.at_
 a0:0 ≤ s.at_
 s0:0 ≤ s.seed
 s1:s.seed < 2147483648
 c1:w.cell? ⟨B,1,none⟩ = some (.int .i64 s.at_)
 c2:w.cell? ⟨B,2,none⟩ = some (.int .i64 s.seed)
def SrXE (B:Nat) (w:World) (v:Value) (l:List Int) (s:Sr) (w':World):Prop:=SrX B w' v l s∧w.grownBy w' (some B)
theorem srX_drew {B:Nat} {w0 w:World} {v:Value} {l:List Int} {s:Sr} (h:SrXE B w0 v l s w) (q:Nat):SrXE B w0 v l s (w.drewN q) :=
 ⟨⟨(src_drew (src_refl h.1.src) q).1,h.1.a0,h.1.s0,h.1.s1,h.1.c1,h.1.c2⟩,zA h.2 (cS _ q _)⟩
set_option maxRecDepth 100000 in
set_option maxHeartbeats 1600000 in
theorem byte_ex (B:Nat) (v:Value) (l:List Int) (s:Sr) (w:World) (h:SrX B w v l s) (hm:s.at_ ≤ 1073741824) :
  Calls Tryz.prog 62 #[.pointer (some ⟨B,0,none⟩)] w fun e w'=>e = .returned (.int .i64 (byF l s).1)∧SrXE B w v l (byF l s).2 w':=by
 obtain ⟨at_,seed⟩:=s
 obtain ⟨hS,ha0,qH,hs,c1,c2⟩:=h
 simp only at hS ha0 qH hs c1 c2 hm
 have HS:=hide hS
 obtain ⟨xN,xC,hbts,hcode,-,f1,f2⟩:=hS
 have vH:=hide (fun w1 h=>src_step (w1:=w1) (U HS) ha0 (Int.le_refl _) c1 c2 h)
 obtain ⟨a,cap,rfl,hl,hc⟩:=xN
 have HB:=hide hbts
 clear hbts hc c2 f2 xC
 have HBY:=hide (byF.eq_1 l ⟨at_,seed⟩)
 simp only at HBY
 generalize byF l ⟨at_,seed⟩ = R at HBY ⊢
 go_enter Tryz.func62,Tryz.ntmps62
 go_wp2_with fail
 generalize kW:w.setCell ⟨B,1,none⟩ (.int .i64 (at_ + 1)) = w1
 obtain ⟨hE,d0,d1,d2,g2,hrd1⟩:=U vH w1 kW
 have HE:=hide hE
 have vw:Hid (SrXE B w (.slice a l.length cap) l ⟨at_ + 1,seed⟩ w1):=⟨⟨hE.1,by show 0 ≤ at_ + 1; omega,qH,hs,d1,d2⟩,hE.2⟩
 obtain ⟨a',jJ,e',_,hc⟩:=hrd1
 simp only [Value.slice.injEq,true_and] at e'
 obtain ⟨rfl,rfl⟩:=e'
 clear hE vH kW c1 f1 hcode
 by_cases Q:at_ + 1 ≤ l.length
 ·rw [if_pos Q] at HBY
  have hc':=hc (by intro e; subst e; simp at Q; omega)
  obtain ⟨b,off,rfl,xr⟩:=hc'
  obtain ⟨k,rfl⟩:=Int.eq_ofNat_of_zero_le ha0
  simp only [Int.toNat_natCast] at HBY
  have hck:=xr k (by omega)
  have hbk:=bts_get (U HB) k
  generalize hx:l.getD k 0 = x at *
  have HX:=hide hx
  clear hx
  obtain ⟨hx0,hx1⟩:=hbk
  have h1'':(k:Int) < l.length:=by omega
  clear hc xr
  go_quiet (fail)
  go_wp2_with fail
  have hd:Rd w1 (.slice (some ⟨b,off,none⟩) l.length cap) l:=(U HE).1.rd
  go_region
  all_goals
   generalize hw2:(w1.drewN _).setCell ⟨B,2,none⟩ (.int .i64 ((seed * 31 + x + 7) % 2147483648)) = w2
   obtain ⟨hE2,t0,t1,t2,hrd2⟩:=seed_step (src_drew (U HE) _) d1 (by omega) (by omega) hw2
   have xW:Hid (SrXE B w (.slice (some ⟨b,off,none⟩) l.length cap) l ⟨(k:Int) + 1,(seed * 31 + x + 7) % 2147483648⟩ w2):=⟨⟨hE2.1,by show (0:Int) ≤ k + 1; omega,by show 0 ≤ (seed * 31 + x + 7) % 2147483648; omega,by show (seed * 31 + x + 7) % 2147483648 < 2147483648; omega,t1,t2⟩,hE2.2⟩
   obtain ⟨a2,cap2,e2,_,hc2⟩:=hrd2
   obtain ⟨b2,off2,e3,hc3⟩:=hc2 (by intro e; subst e; simp at h1''; omega)
   simp only [Value.slice.injEq,true_and] at e2
   obtain ⟨rfl,rfl⟩:=e2
   simp only [Option.some.injEq,Addr.mk.injEq,and_true] at e3
   obtain ⟨rfl,rfl⟩:=e3
   have tck:=hc3 k (by omega)
   have hx:l.getD k 0 = x:=U HX
   rw [hx] at tck
   clear hE2 hc2 hc3 hw2 d0 d1 d2 hck hx hd
   go_wp2_with fail
   go_quiet (fail)
   go_wp2_with fail
   go_ret
   rw [U HBY]
   exact ⟨rfl,srX_drew (U xW) _⟩
 ·rw [if_neg Q] at HBY
  have aM:(l.length:Int) < at_ + 1:=by omega
  clear hc
  by_cases D:3000 < at_ + 1
  ·rw [if_pos D] at HBY
   go_quiet (fail)
   go_wp2_with fail
   go_ret
   rw [U HBY]
   exact ⟨rfl,srX_drew (U vw) _⟩
  ·rw [if_neg D] at HBY
   have vI:Hid (∀ q,SrXE B w (.slice a l.length cap) l ⟨at_ + 1,(seed * 1103515245 + 12345) % 2147483648⟩ ((w1.drewN q).setCell ⟨B,2,none⟩ (.int .i64 ((seed * 1103515245 + 12345) % 2147483648)))):=fun q=>by
    obtain ⟨hE2,t0,t1,t2,-⟩:=seed_step (src_drew (U HE) q) d1 (s:=(seed * 1103515245 + 12345) % 2147483648) (by omega) (by omega) rfl
    exact ⟨⟨hE2.1,by show 0 ≤ at_ + 1; omega,by show 0 ≤ (seed * 1103515245 + 12345) % 2147483648; omega,by show (seed * 1103515245 + 12345) % 2147483648 < 2147483648; omega,t1,t2⟩,hE2.2⟩
   go_quiet (fail)
   go_wp2_with fail
   go_ret
   rw [U HBY]
   exact ⟨rfl,U vI _⟩

theorem dF (w:World) (o:Obj) (row:Option Nat):w.grownBy (w.alloc o) row :=
 ⟨rfl,rfl,rfl,by simp,fun k E _=>((Below.refl _ w).alloc hU o).block k E⟩
theorem dW {B:Nat} {w:World} {v:Value} {l:List Int} {m:Int} (h:Src B w v l m):B < w.heap.size:=yL w _ h.code
theorem src_alloc {B:Nat} {w0 w:World} {v:Value} {l:List Int} {m:Int} (h:dx B w0 v l m w) (o:Obj):dx B w0 v l m (w.alloc o):=by
 have hB:=dW h.1
 obtain ⟨a,s,k1,k2,k3,k4,k5,k6⟩:=h.1.cells
 have e:∀ i,(w.alloc o).cell? (J B i) = w.cell? (J B i):=fun i=>yW _ _ (J B i) hB
 have f:∀ i,(w.alloc o).frozen? (J B i) = w.frozen? (J B i):=fun i=>World.frozen?_of_block (a:=(J B i)) ((dF w o none).block B hB (by simp))
 exact ⟨⟨rd_grown h.1.rd (dF w o _) h.1.ne,h.1.ne,h.1.bts,(e 0).trans h.1.code,⟨a,s,k1,k2,k3,k4,(e 1).trans k5,(e 2).trans k6⟩,(f 1).trans h.1.free1,(f 2).trans h.1.free2⟩,zA h.2 (dF w o _)⟩
theorem rd_new {w:World} {v:Value} {l:List Int} (h:Rd w v l) (xC:l ≠ []):v.ownBlock ≠ some w.heap.size:=by
 obtain ⟨a,cap,rfl,_,hc⟩:=h
 obtain ⟨b,off,rfl,xr⟩:=hc xC
 have:=yL w _ (xr 0 (List.length_pos_iff.2 xC))
 simp only [Value.ownBlock,ne_eq,Option.some.injEq]
 intro e
 simp only at this
 omega
theorem own_below_grown {w w1 w':World} {B:Nat} (Q:yn w w1) (hB:w.heap.size ≤ B) (D:w1.grownBy w' (some B)):yn w w' :=
 Q.trans (gr_below D hB Q.size)

def nanB (x:Nat):Bool:=FloatKind.f64.format.order x x != some Ordering.eq
theorem datum_self (d:Ieee.Datum) (h:¬ d.isNaN = true):d.order d = some Ordering.eq:=by
 cases d with
 | nan s f=>simp [Ieee.Datum.isNaN] at h
 | infinity s=>cases s <;> rfl
 | number s m i=>simp [Ieee.Datum.order,Std.ReflCmp.compare_self]
theorem fbits (x:Nat) (w:World):(callFunc 147 #[yj x]).run Tryz.prog w = .ok (.value (.int .u64 x)) w:=by
 rw [run_callFunc_extern (e:=Extern.MathFloatBits.float64bits) Tryz.func147 (by kernel_rfl) (by kernel_rfl) (by kernel_rfl) (by kernel_rfl)]
 rfl
theorem gg (x:Nat) (w:World) :
  Calls Tryz.prog 146 #[yj x] w fun e w'=>e = ym (.bool (nanB x))∧w' = w:=by
 go_enter Tryz.func146,Tryz.ntmps146
 go_wp2
 go_ret
 exact ⟨rfl,rfl⟩
theorem sub_one (W:World):(binOp .sub 31 (yj 4607182418800017408) (yj 4607182418800017408)).run Tryz.prog W = .ok (yj 0) W:=by
 have h:FloatKind.f64.format.sub 4607182418800017408 4607182418800017408 = some 0:=by kernel_rfl
 simp [binOp,Op.floatArith,h]
theorem neg_zero (W:World):(Op.unary .neg (yj 0)).run Tryz.prog W = .ok (yj 9223372036854775808) W:=by
 kernel_rfl
theorem one_zero (W:World):(binOp .quo 31 (yj 4607182418800017408) (yj 0)).run Tryz.prog W = .ok (yj 9218868437227405312) W:=by
 have h:FloatKind.f64.format.div 4607182418800017408 0 = some 9218868437227405312:=by kernel_rfl
 simp [binOp,Op.floatArith,h]
theorem less_zero (W:World):(binOp .quo 31 (yj 13830554455654793216) (yj 0)).run Tryz.prog W = .ok (yj 18442240474082181120) W:=by
 have h:FloatKind.f64.format.div 13830554455654793216 0 = some 18442240474082181120:=by kernel_rfl
 simp [binOp,Op.floatArith,h]
def nanOf (W:World):Nat:=(Question.nanBits .f64 0 0).cut (W.tape W.drawn (.nanBits .f64 0 0))
theorem zero_zero (W:World):(binOp .quo 31 (yj 0) (yj 0)).run Tryz.prog W = .ok (yj (nanOf W)) W.drew:=by
 have h:FloatKind.f64.format.div 0 0 = none:=by kernel_rfl
 simp [binOp,Op.floatArith,h,nanOf,choose]
 rfl
theorem zero_any (w:World):Calls Tryz.prog 162 #[] w fun e w'=>e = ym (yj 0)∧w' = w:=by
 have h:=sub_one
 go_enter Tryz.func162,Tryz.ntmps162
 go_wp2_with fail
 go_ret
 exact ⟨rfl,rfl⟩
theorem frombitsS (n:Int) (w:World):(callFunc 191 #[.int .u64 n]).run Tryz.prog w = .ok (.value (yj n.toNat)) w:=by
 rw [run_callFunc_extern (e:=Extern.MathFloatBits.float64frombits) Tryz.func191 (by kernel_rfl) (by kernel_rfl) (by kernel_rfl) (by kernel_rfl)]
 rfl
theorem zc {C:Nat} {w w':World} {b o:Nat} {cs:List Value} (h:w.rangeAt b o cs) (A:Below C w w') (hC:b < C):w'.rangeAt b o cs :=
 fun j v hv=>(A.cell (p:=(J b (o + j))) hC).trans (h j v hv)
theorem zk {C:Nat} {w w':World} {b o n:Nat} (h:w.there b o n) (A:Below C w w') (hC:b < C):w'.there b o n :=
 fun j hj=>⟨by rw [A.cell (p:=(J b (o + j))) hC]; exact (h j hj).1,by rw [A.frozen (p:=(J b (o + j))) hC]; exact (h j hj).2⟩
theorem zv {G:Option Nat} {w w':World} {b o:Nat} {cs:List Value} (h:w.rangeAt b o cs) (hg:w.grownBy w' G) (A:b < w.heap.size) (xC:some b ≠ G):w'.rangeAt b o cs :=
 fun j v hv=>(yR (a:=(J b (o + j))) (hg.block b A xC)).trans (h j v hv)
theorem eD {G:Option Nat} {w w':World} {b o n:Nat} (h:w.there b o n) (hg:w.grownBy w' G) (A:b < w.heap.size) (xC:some b ≠ G):w'.there b o n :=
 fun j hj=>⟨by rw [yR (a:=(J b (o + j))) (hg.block b A xC)]; exact (h j hj).1,by rw [World.frozen?_of_block (a:=(J b (o + j))) (hg.block b A xC)]; exact (h j hj).2⟩
theorem ep {w w':World} {B:Nat} {G:Option Nat} (h:Below B w w') (hB:w.heap.size ≤ B):w.grownBy w' G :=
 ⟨h.os,h.tape,h.output,h.size,fun k E _=>h.block k (by omega)⟩
theorem gr_below' {w w':World} {G:Option Nat} {B:Nat} (h:w.grownBy w' G) (hG:∀ g,G = some g→B ≤ g) (hs:B ≤ w.heap.size):Below B w w' :=
 ⟨h.os,h.tape,h.output,h.size,fun k E=>h.block k (by omega) (fun e=>by have:=hG k e.symm; omega)⟩
section
variable {α:Type} (f:α→List Value) (sz:Nat)

def RdR (w:World) (v:Value) (l:List α):Prop :=
 ∃ (a:Option Addr) (cap:Nat),v = .slice a l.length cap∧l.length ≤ 1073741824 ∧
  (l ≠ []→∃ b off,a = some (J b off)∧b < w.heap.size∧∀ i c,l[i]? = some c→w.rangeAt b (off + i * sz) (f c))
def OwnR (B:Nat) (w:World) (v:Value) (l:List α):Prop :=
 ∃ (a:Option Addr) (cap:Nat),v = .slice a l.length cap∧l.length ≤ 1073741824 ∧
  (l ≠ []→∃ g,a = some (J g 0)∧B ≤ g∧g < w.heap.size∧(∀ i c,l[i]? = some c→w.rangeAt g (0 + i * sz) (f c))∧w.there g 0 (l.length * sz))
variable {f sz}

theorem ownR_rd {B:Nat} {w:World} {v:Value} {l:List α} (h:OwnR f sz B w v l):RdR f sz w v l:=by
 obtain ⟨a,cap,rfl,hl,h⟩:=h
 refine ⟨a,cap,rfl,hl,fun xC=>?_⟩
 obtain ⟨g,rfl,_,D,X,_⟩:=h xC
 exact ⟨g,0,rfl,D,X⟩
theorem zh {C:Nat} {w w':World} {v:Value} {l:List α} (h:RdR f sz w v l) (A:Below C w w') (hC:w.heap.size ≤ C):RdR f sz w' v l:=by
 obtain ⟨a,cap,rfl,hl,h⟩:=h
 refine ⟨a,cap,rfl,hl,fun xC=>?_⟩
 obtain ⟨b,off,rfl,Q,D⟩:=h xC
 exact ⟨b,off,rfl,yK Q A.size,fun i c hc=>zc (D i c hc) A (yK Q hC)⟩
theorem ownR_below {B C:Nat} {w w':World} {v:Value} {l:List α} (h:OwnR f sz B w v l) (A:Below C w w') (hC:w.heap.size ≤ C):OwnR f sz B w' v l:=by
 obtain ⟨a,cap,rfl,hl,h⟩:=h
 refine ⟨a,cap,rfl,hl,fun xC=>?_⟩
 obtain ⟨g,rfl,h0,Q,D,X⟩:=h xC
 exact ⟨g,rfl,h0,yK Q A.size,fun i c hc=>zc (D i c hc) A (yK Q hC),zk X A (yK Q hC)⟩
theorem rdR_grown {G:Option Nat} {w w':World} {v:Value} {l:List α} (h:RdR f sz w v l) (hg:w.grownBy w' G) (hG:∀ g,G = some g→w.heap.size ≤ g):RdR f sz w' v l:=by
 obtain ⟨a,cap,rfl,hl,h⟩:=h
 refine ⟨a,cap,rfl,hl,fun xC=>?_⟩
 obtain ⟨b,off,rfl,Q,D⟩:=h xC
 exact ⟨b,off,rfl,yK Q hg.size,fun i c hc=>zv (D i c hc) hg Q (fun e=>by have:=hG b e.symm; omega)⟩
theorem zj {B:Nat} {w:World} (b:Nat) (A:B ≤ b):∀ (vs:List Value) (o:Nat) (wr:World),Below B w wr→Below B w (wr.setCells b o vs)
 | [],_,_,h=>h
 | v :: r,o,wr,h=>by rw [World.setCells]; exact zj b A r (o + 1) _ (h.setCell (show B ≤ ((J b o):Addr).block from A) v)
theorem eA (b:Nat):∀ (vs:List Value) (o:Nat) (wr:World),(wr.setCells b o vs).heap.size = wr.heap.size
 | [],_,_=>rfl
 | v :: r,o,wr=>by rw [World.setCells,eA b r (o + 1)]; simp [World.setCell]
theorem eC {w:World} {g n t:Nat} {xz:Array Value} (hg:w.heap[g]? = some (.cells xz t (0,0))) (hn:n ≤ xz.size):w.there g 0 n:=fun j hj =>
 ⟨by rw [cell_of_row w g (0 + j) xz t (0,0) hg,Array.getElem?_eq_getElem (by omega)]; rfl,by simp [World.frozen?,hg]⟩
theorem flat_get (hf:∀ c,(f c).length = sz):∀ (l:List α) (i j:Nat) (c:α),l[i]? = some c→j < sz→(l.flatMap f)[i * sz + j]? = (f c)[j]?
 | [],_,_,_,h,_=>by simp at h
 | a :: l,0,j,c,h,hj=>by
  simp at h; subst h
  rw [List.flatMap_cons,List.getElem?_append_left (by rw [hf]; omega)]; simp
 | a :: l,i + 1,j,c,h,hj=>by
  simp at h
  rw [List.flatMap_cons,List.getElem?_append_right (by rw [hf,Nat.add_mul]; omega),hf,← flat_get hf l i j c h hj]
  congr 1
  rw [Nat.add_mul]; omega
theorem zL (hf:∀ c,(f c).length = sz):∀ (l:List α),(l.flatMap f).length = l.length * sz
 | []=>by simp
 | a :: l=>by rw [List.flatMap_cons,yQ,hf,zL hf l,List.length_cons,Nat.add_mul]; omega
theorem eu {B e:Nat} {w:World} {v:Value} {l:List α} (hf:∀ c,(f c).length = sz) (hl:l.length ≤ 1073741824) (h:w.ownsRow B e sz v l.length (l.flatMap f)):OwnR f sz B w v l:=by
 rcases h.2 with ⟨rfl,h0⟩ | ⟨g,cap,xz,rfl,A,hg,uq,_,hcur,oj⟩
 ·exact ⟨none,0,by rw [h0],hl,fun xC=>absurd (List.length_eq_zero_iff.1 h0) xC⟩
 ·have qx:=Nat.mul_le_mul_right sz uq
  refine ⟨_,cap,rfl,hl,fun _=>⟨g,rfl,A,(yZ.1 hg).1,fun i c hc j u hu=>?_,eC hg (by omega)⟩⟩
  have hj:j < sz:=by rw [← hf c]; exact (yH.1 hu).1
  have D:=flat_get hf l i j c hc hj
  have xM:i * sz + j < l.length * sz:=by
   have:=Nat.mul_le_mul_right sz (show i + 1 ≤ l.length from (yH.1 hc).1)
   rw [Nat.add_mul] at this; omega
  rw [← oj,List.getElem?_take,if_pos xM] at D
  rw [cell_of_row w g _ xz e (0,0) hg,Nat.zero_add]
  simpa using D.trans hu
end
structure Cm where
 k:Int
 s:Int
 t:Int
 l:Int
 q:Int
 i:Int
 p:Nat
 g:ByteArray
def Cm.vs (c:Cm):List Value:=(yx c.k c.s c.t c.l c.q c.i c.p c.g)
theorem Cm.len (c:Cm):c.vs.length = 8:=rfl
theorem cm_cells {w:World} {b o:Nat} {c:Cm} (h:w.rangeAt b o c.vs) :
  w.cell? (J b o) = some (H c.k)∧w.cell? (J b (o + 1)) = some (H c.s)∧w.cell? (J b (o + 2)) = some (H c.t)∧w.cell? (J b (o + 3)) = some (H c.l) ∧
  w.cell? (J b (o + 4)) = some (H c.q)∧w.cell? (J b (o + 5)) = some (H c.i)∧w.cell? (J b (o + 6)) = some (yj c.p)∧w.cell? (J b (o + 7)) = some (yk c.g) :=
 ⟨h 0 _ rfl,h 1 _ rfl,h 2 _ rfl,h 3 _ rfl,h 4 _ rfl,h 5 _ rfl,h 6 _ rfl,h 7 _ rfl⟩
theorem zE {w:World} {b o n:Nat} (h:w.there b o n) (j:Nat) (hj:j < n):∃ v,w.cell? (J b (o + j)) = some v∧w.frozen? (J b (o + j)) = false:=by
 obtain ⟨v,hv⟩:=Option.isSome_iff_exists.1 (h j hj).1
 exact ⟨v,hv,(h j hj).2⟩
theorem sfl (a:Addr) (x:Nat) (m:Mode) (w:World):(store a (yj x) m).run Tryz.prog w = stored Tryz.prog w a (yj x) m:=run_store _ w a _ m rfl
structure Bx (W:World) (b:Nat) (vs:List Value):Prop where
 r:W.rangeAt b 0 vs
 t:W.there b 0 vs.length
theorem zy (w:World) (vs:List Value) (t:TypeId):Bx (w.alloc (Obj.cells vs.toArray t)) w.heap.size vs :=
 ⟨fun j u h=>by
  rw [cell_of_row _ w.heap.size (0 + j) vs.toArray t (0,0) (heap_alloc_new w _)]
  simpa using h,eC (heap_alloc_new w _) (by simp)⟩
theorem zl {C b:Nat} {W V:World} {vs:List Value} (h:Bx W b vs) (A:Below C W V) (hC:b < C):Bx V b vs:=⟨zc h.r A hC,zk h.t A hC⟩
theorem zb {W:World} {b:Nat} {vs:List Value} (h:Bx W b vs) (j:Nat) {u:Value} (hj:vs[j]? = some u):W.cell? (J b j) = some u:=by
 have:=h.r j u hj; rwa [Nat.zero_add] at this
theorem zd {W:World} {b:Nat} {vs:List Value} (h:Bx W b vs) (j:Nat) (hj:j < vs.length):W.frozen? (J b j) = false:=by
 have:=(h.t j hj).2; rwa [Nat.zero_add] at this
theorem eh {W:World} {b j:Nat} {vs:List Value} {u:Value} (h:Bx W b vs) (hj:j < vs.length):Bx (W.setCell (J b j) u) b (vs.set j u):=by
 refine ⟨fun i v hi=>?_,by rw [List.length_set]; exact xc (vs:=[u]) h.t b j⟩
 rw [Nat.zero_add]
 by_cases oT:j = i
 ·subst oT
  rw [List.getElem?_set_self hj] at hi
  cases hi
  have:=h.r j _ (yI hj)
  rw [Nat.zero_add] at this
  exact yN _ _ _ this
 ·rw [yX oT] at hi
  have:=h.r i v hi
  rw [Nat.zero_add] at this
  rw [yM _ _ _ _ (bZ oT)]
  exact this
theorem zB {W:World} {b:Nat} {vs us:List Value} (h:Bx W b vs) (hl:us.length = vs.length):Bx (W.setCells b 0 us) b us :=
 ⟨yY W b 0 us (fun j hj=>h.t j (by omega)),by rw [hl]; exact xc h.t b 0 us⟩
theorem bx_heap (b k:Nat) (E:k ≠ b):∀ (vs:List Value) (o:Nat) (W:World),(W.setCells b o vs).heap[k]? = W.heap[k]?
 | [],_,_=>rfl
 | u :: us,o,W=>by rw [World.setCells,bx_heap b k E us (o + 1)]; exact yT _ _ _ _ E
theorem cE {W V:World} {b:Nat} {vs:List Value} (h:Bx W b vs) (A:V.heap[b]? = W.heap[b]?):Bx V b vs :=
 ⟨fun j u hj=>by rw [yR (a:=(J b (0 + j))) A]; exact h.r j u hj,
  fun j hj=>by rw [yR (a:=(J b (0 + j))) A,World.frozen?_of_block (a:=(J b (0 + j))) A]; exact h.t j hj⟩
theorem fd {W:World} {b c j:Nat} {vs:List Value} {u:Value} (h:Bx W b vs) (hc:b ≠ c):Bx (W.setCell (J c j) u) b vs:=cE h (yT _ _ _ _ hc)
theorem bx_others {W:World} {b c:Nat} {vs us:List Value} (h:Bx W b vs) (hc:b ≠ c):Bx (W.setCells c 0 us) b vs:=cE h (bx_heap c b hc us 0 W)
theorem eH {W:World} {b:Nat} {vs:List Value} (h:Bx W b vs) (n:Nat):Bx (W.drewN n) b vs:=⟨h.r,h.t⟩
theorem cf {W:World} {b:Nat} {vs:List Value} (h:Bx W b vs):Bx W.drew b vs:=⟨h.r,h.t⟩
theorem yz {W:World} {b:Nat} {v0 v1 v2 v3 v4 v5 v6 v7 v8 v9 v10 v11 v12 v13:Value} (h:Bx W b [v0,v1,v2,v3,v4,v5,v6,v7,v8,v9,v10,v11,v12,v13]):W.cell? ⟨b,0,none⟩ = some v0∧W.cell? ⟨b,1,none⟩ = some v1∧W.cell? ⟨b,2,none⟩ = some v2∧W.cell? ⟨b,3,none⟩ = some v3∧W.cell? ⟨b,4,none⟩ = some v4∧W.cell? ⟨b,5,none⟩ = some v5∧W.cell? ⟨b,6,none⟩ = some v6∧W.cell? ⟨b,7,none⟩ = some v7∧W.cell? ⟨b,8,none⟩ = some v8∧W.cell? ⟨b,9,none⟩ = some v9∧W.cell? ⟨b,10,none⟩ = some v10∧W.cell? ⟨b,11,none⟩ = some v11∧W.cell? ⟨b,12,none⟩ = some v12∧W.cell? ⟨b,13,none⟩ = some v13:=⟨zb h 0 rfl,zb h 1 rfl,zb h 2 rfl,zb h 3 rfl,zb h 4 rfl,zb h 5 rfl,zb h 6 rfl,zb h 7 rfl,zb h 8 rfl,zb h 9 rfl,zb h 10 rfl,zb h 11 rfl,zb h 12 rfl,zb h 13 rfl⟩
theorem yA {W:World} {b:Nat} {v0 v1 v2 v3 v4 v5 v6 v7:Value} (h:Bx W b [v0,v1,v2,v3,v4,v5,v6,v7]):W.cell? ⟨b,0,none⟩ = some v0∧W.cell? ⟨b,1,none⟩ = some v1∧W.cell? ⟨b,2,none⟩ = some v2∧W.cell? ⟨b,3,none⟩ = some v3∧W.cell? ⟨b,4,none⟩ = some v4∧W.cell? ⟨b,5,none⟩ = some v5∧W.cell? ⟨b,6,none⟩ = some v6∧W.cell? ⟨b,7,none⟩ = some v7:=⟨zb h 0 rfl,zb h 1 rfl,zb h 2 rfl,zb h 3 rfl,zb h 4 rfl,zb h 5 rfl,zb h 6 rfl,zb h 7 rfl⟩
theorem yB {W:World} {b:Nat} {v0 v1 v2 v3 v4 v5:Value} (h:Bx W b [v0,v1,v2,v3,v4,v5]):W.cell? ⟨b,0,none⟩ = some v0∧W.cell? ⟨b,1,none⟩ = some v1∧W.cell? ⟨b,2,none⟩ = some v2∧W.cell? ⟨b,3,none⟩ = some v3∧W.cell? ⟨b,4,none⟩ = some v4∧W.cell? ⟨b,5,none⟩ = some v5:=⟨zb h 0 rfl,zb h 1 rfl,zb h 2 rfl,zb h 3 rfl,zb h 4 rfl,zb h 5 rfl⟩
theorem ie (w:World) (vs:List Value) (t:TypeId):Below w.heap.size w (w.alloc (Obj.cells vs.toArray t))∧Hid (Bx (w.alloc (Obj.cells vs.toArray t)) w.heap.size vs):=⟨(Below.refl _ _).alloc (Nat.le_refl _) _,zy w vs t⟩
theorem ig (w:World) (vs:List Value) (t:TypeId):Hid (Below w.heap.size w (w.alloc (Obj.cells vs.toArray t)))∧Hid (Bx (w.alloc (Obj.cells vs.toArray t)) w.heap.size vs):=⟨(Below.refl _ _).alloc (Nat.le_refl _) _,zy w vs t⟩
end Go.Proofs.YthhkapcbocgcoaaGreatDoor
