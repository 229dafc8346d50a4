/-
  Small facts that all walks of this seat lean on: facts kept from the walk, an ending's value, a text's bytes as a list.
-/
import Derived.Test.YtnphbkgfjanmgaaGreatDoorRows
import Derived.WalkKit
import Derived.Below
import Derived.OpenShut
import Derived.Deep.QuietTactic
import Derived.BigQuiet
import Derived.WalkSmall
import Derived.WalkSpells
import Derived.WalkLawsBesides
import Derived.Laws.Externs
import GoSem.Core.Float
import Derived.Handy
import Derived.Deep.MidRow
set_option linter.unusedVariables false
set_option maxHeartbeats 6400000
set_option maxRecDepth 100000
namespace Go.Proofs.YtnphbkgfjanmgaaGreatDoor
open Go.RowKit
theorem hide {p:Prop} (h:p):Hid p:=h
theorem H {p:Prop} (h:Hid p):p:=h
theorem zp {a b:Bool} (h:a = b):Ending.returned (.bool a) = .returned (.bool b):=by rw [h]
theorem zy {k:IntKind} {a b:Int} (h:a = b):Ending.returned (.int k a) = .returned (.int k b):=by rw [h]
theorem get_nat (s:ByteArray) (k:Nat) (h:k < s.size):s[k] = s.data.toList[k]'(by simpa using h):=rfl
theorem data_len (s:ByteArray):s.data.toList.length = s.size:=by simp
abbrev I (n : Int) : Value := .int .i64 n
abbrev U (b o : Nat) : Addr := ⟨b, o, none⟩
abbrev J (b o : Nat) : Value := .pointer (some ⟨b, o, none⟩)
theorem ya {n : Nat} : n ≤ n := Nat.le_refl n
theorem yb {fG : Type} {a b : fG} (h : some a = some b) : a = b := Option.some.inj h
theorem M {p : Prop} (h : p) : Hid p := h
theorem yh {o : Option Value} {v : Value} (h : o = some v) : ∀ u, o = some u → v = u := fun u hu => Option.some.inj (h.symm.trans hu)
theorem yi {o : Option (Option Value)} {v : Value} (h : o = some (some v)) : ∀ u, o = some (some u) → v = u := fun u hu => Option.some.inj (Option.some.inj (h.symm.trans hu))
abbrev yj (n : Nat) : Value := .float .f64 n
abbrev yk (b : ByteArray) : Value := .string b
abbrev Z : Value := undef
abbrev A (a : Array Value) (t : TypeId) : Obj := Obj.cells a t
theorem fI {P : Program} {h1 : Exit → Act → World → Prop} {a : Act} {w : World} {x y : Code} (h : ∀ hR : Act → World → Prop, Hid (∀ a w, y.wp P h1 a w → hR a w) → x.wp P (Exit.then hR h1) a w) : (Code.seq x y).wp P h1 a w := wp_seq_k h
theorem fE (w : World) (o : Obj) : Below w.heap.size w (w.alloc o) := (Below.refl _ _).alloc (Nat.le_refl _) _
theorem fH {w w1 w2 : World} (h : Below w.heap.size w w1) (Y : Below w1.heap.size w1 w2) : Below w.heap.size w w2 := h.trans (Y.mono h.size)
abbrev yv (a b c d e f g : Int) (p : Nat) (s : ByteArray) (h i j k l : Int) : List Value := [.int .i64 a, .int .i64 b, .int .i64 c, .int .i64 d, .int .i64 e, .int .i64 f, .int .i64 g, .float .f64 p, .string s, .int .i64 h, .int .i64 i, .int .i64 j, .int .i64 k, .int .i64 l]
abbrev yw (a b c d e : Int) (s : ByteArray) : List Value := [.int .i64 a, .int .i64 b, .int .i64 c, .int .i64 d, .int .i64 e, .string s]
abbrev yx (a b c d e f : Int) (p : Nat) (s : ByteArray) : List Value := [.int .i64 a, .int .i64 b, .int .i64 c, .int .i64 d, .int .i64 e, .int .i64 f, .float .f64 p, .string s]
abbrev ym (v : Value) : Ending := .returned v
abbrev yn (w w1 : World) : Prop := Below w.heap.size w w1
abbrev yp (w : World) (o : Nat) : Value := .pointer (some ⟨w.heap.size, o, none⟩)
abbrev yq (w : World) (o : Nat) : Addr := ⟨w.heap.size, o, none⟩
theorem yB {W : World} {b : Nat} {v0 v1 v2 v3 v4 : Value} (h : W.rangeAt b 0 [v0, v1, v2, v3, v4]) : W.cell? ⟨b, 0, none⟩ = some v0 ∧ W.cell? ⟨b, 1, none⟩ = some v1 ∧ W.cell? ⟨b, 2, none⟩ = some v2 ∧ W.cell? ⟨b, 3, none⟩ = some v3 ∧ W.cell? ⟨b, 4, none⟩ = some v4 := ⟨h 0 _ rfl, h 1 _ rfl, h 2 _ rfl, h 3 _ rfl, h 4 _ rfl⟩
theorem yC {W : World} {b : Nat} {v0 v1 v2 v3 v4 v5 : Value} (h : W.rangeAt b 0 [v0, v1, v2, v3, v4, v5]) : W.cell? ⟨b, 0, none⟩ = some v0 ∧ W.cell? ⟨b, 1, none⟩ = some v1 ∧ W.cell? ⟨b, 2, none⟩ = some v2 ∧ W.cell? ⟨b, 3, none⟩ = some v3 ∧ W.cell? ⟨b, 4, none⟩ = some v4 ∧ W.cell? ⟨b, 5, none⟩ = some v5 := ⟨h 0 _ rfl, h 1 _ rfl, h 2 _ rfl, h 3 _ rfl, h 4 _ rfl, h 5 _ rfl⟩
theorem yD {W : World} {b : Nat} {v0 v1 v2 v3 v4 v5 v6 v7 : Value} (h : W.rangeAt b 0 [v0, v1, v2, v3, v4, v5, v6, v7]) : W.cell? ⟨b, 0, none⟩ = some v0 ∧ W.cell? ⟨b, 1, none⟩ = some v1 ∧ W.cell? ⟨b, 2, none⟩ = some v2 ∧ W.cell? ⟨b, 3, none⟩ = some v3 ∧ W.cell? ⟨b, 4, none⟩ = some v4 ∧ W.cell? ⟨b, 5, none⟩ = some v5 ∧ W.cell? ⟨b, 6, none⟩ = some v6 ∧ W.cell? ⟨b, 7, none⟩ = some v7 := ⟨h 0 _ rfl, h 1 _ rfl, h 2 _ rfl, h 3 _ rfl, h 4 _ rfl, h 5 _ rfl, h 6 _ rfl, h 7 _ rfl⟩
theorem yE {W : World} {b : Nat} {v0 v1 v2 v3 v4 v5 v6 v7 v8 : Value} (h : W.rangeAt b 0 [v0, v1, v2, v3, v4, v5, v6, v7, v8]) : W.cell? ⟨b, 0, none⟩ = some v0 ∧ W.cell? ⟨b, 1, none⟩ = some v1 ∧ W.cell? ⟨b, 2, none⟩ = some v2 ∧ W.cell? ⟨b, 3, none⟩ = some v3 ∧ W.cell? ⟨b, 4, none⟩ = some v4 ∧ W.cell? ⟨b, 5, none⟩ = some v5 ∧ W.cell? ⟨b, 6, none⟩ = some v6 ∧ W.cell? ⟨b, 7, none⟩ = some v7 ∧ W.cell? ⟨b, 8, none⟩ = some v8 := ⟨h 0 _ rfl, h 1 _ rfl, h 2 _ rfl, h 3 _ rfl, h 4 _ rfl, h 5 _ rfl, h 6 _ rfl, h 7 _ rfl, h 8 _ rfl⟩
theorem yF {W : World} {b : Nat} {v0 v1 v2 v3 v4 v5 v6 v7 v8 v9 v10 v11 v12 v13 : Value} (h : W.rangeAt b 0 [v0, v1, v2, v3, v4, v5, v6, v7, v8, v9, v10, v11, v12, v13]) : W.cell? ⟨b, 0, none⟩ = some v0 ∧ W.cell? ⟨b, 1, none⟩ = some v1 ∧ W.cell? ⟨b, 2, none⟩ = some v2 ∧ W.cell? ⟨b, 3, none⟩ = some v3 ∧ W.cell? ⟨b, 4, none⟩ = some v4 ∧ W.cell? ⟨b, 5, none⟩ = some v5 ∧ W.cell? ⟨b, 6, none⟩ = some v6 ∧ W.cell? ⟨b, 7, none⟩ = some v7 ∧ W.cell? ⟨b, 8, none⟩ = some v8 ∧ W.cell? ⟨b, 9, none⟩ = some v9 ∧ W.cell? ⟨b, 10, none⟩ = some v10 ∧ W.cell? ⟨b, 11, none⟩ = some v11 ∧ W.cell? ⟨b, 12, none⟩ = some v12 ∧ W.cell? ⟨b, 13, none⟩ = some v13 := ⟨h 0 _ rfl, h 1 _ rfl, h 2 _ rfl, h 3 _ rfl, h 4 _ rfl, h 5 _ rfl, h 6 _ rfl, h 7 _ rfl, h 8 _ rfl, h 9 _ rfl, h 10 _ rfl, h 11 _ rfl, h 12 _ rfl, h 13 _ rfl⟩
abbrev yG := @List.getElem?_eq_some_iff
abbrev yH := @List.getElem?_eq_getElem
abbrev yI := @List.getElem?_replicate
abbrev yJ := @Nat.lt_of_lt_of_le
abbrev yK := @World.block_lt_of_cell?
abbrev yL := @World.cell?_setCell_other
abbrev yM := @World.cell?_setCell_same
abbrev yN := @Nat.le_trans
abbrev yO := @List.mem_of_getElem?
abbrev yP := @List.length_append
abbrev yQ := @World.cell?_of_block
abbrev yR := @World.grownBy.refl
abbrev yS := @Below.heap_setCell
abbrev yT := @List.take_succ_cons
abbrev yU := @List.drop_succ_cons
abbrev yV := @World.cell?_alloc_lt
abbrev yW := @List.getElem?_set_ne
abbrev yX := @World.rangeAt_setCells_same
abbrev yY := @Array.getElem?_eq_some_iff
abbrev yZ := @List.take_of_length_le
abbrev xa := @List.drop_of_length_le
abbrev xb := @World.there_setCells
abbrev xc := @List.drop_eq_getElem_cons
abbrev xd := @beq_eq_false_iff_ne
abbrev xe := @Bool.and_eq_true
abbrev xf := @decide_eq_true_eq
theorem ye {cs : Array Edge} {x : List Bool} (h : ∀ e ∈ cs, Region.binds .any e = true → x[e.on]? = some true) (j : Nat) (hm : (cs.toList.any fun e => e.on == j && Region.binds .any e) = true) : x[j]? = some true := by
  obtain ⟨e, he, hp⟩ := List.any_eq_true.1 hm
  rw [Bool.and_eq_true] at hp
  have Q : e.on = j := by simpa using hp.1
  have := h e (by simpa using he) hp.2
  rw [Q] at this
  exact this
def Rd (w:World) (v:Value) (l:List Int):Prop :=
 ∃ (a:Option Addr) (cap:Nat),v = .slice a l.length cap∧l.length ≤ 1073741824 ∧
  (l ≠ []→∃ b off,a = some (U b off)∧∀ i,i < l.length→w.cell? (U b (off + i)) = some (.int .u8 (l.getD i 0)))
theorem bz {a b c:World} {row:Option Nat} (h:a.grownBy b row) (k:b.grownBy c row):a.grownBy c row :=
 ⟨k.os.trans h.os,k.tape.trans h.tape,k.output.trans h.output,yN h.size k.size,
  fun i hi xD=>(k.block i (yJ hi h.size) xD).trans (h.block i hi xD)⟩
theorem gr_set (w:World) (a:Addr) (u:Value):w.grownBy (w.setCell a u) (some a.block) :=
 ⟨rfl,rfl,rfl,by simp [World.setCell],fun k _ xD=>yS _ _ _ _ (fun e=>xD (by rw [e]))⟩
theorem bZ (w:World) (n:Nat) (row:Option Nat):w.grownBy (w.drewN n) row:=⟨rfl,rfl,rfl,Nat.le_refl _,fun _ _ _=>rfl⟩
theorem gr_below {w w':World} {g B:Nat} (h:w.grownBy w' (some g)) (hB:B ≤ g) (hs:B ≤ w.heap.size):Below B w w' :=
 ⟨h.os,h.tape,h.output,h.size,fun k hk=>h.block k (by omega) (by simp; omega)⟩
theorem cy {g a b:Nat} (h:a ≠ b):((U g a):Addr) ≠ (U g b):=by
 intro e; injection e; exact h (by assumption)
def Own (B:Nat) (w:World) (v:Value) (l:List Int):Prop :=
 ∃ g cap,v = .slice (some (U g 0)) l.length cap∧B ≤ g∧g < w.heap.size∧l.length ≤ 1073741824 ∧
  (∀ i,i < l.length→w.cell? (U g (0 + i)) = some (.int .u8 (l.getD i 0)))∧∀ i,i < l.length→w.frozen? (U g (0 + i)) = false
theorem Tryz.infoByte:(Tryz.prog.info? 5).map (fun i=>(i.zero,i.size,i.bytes)) = some (some (.int .u8 0),1,1):=by kernel_rfl
def OwnT (B:Nat) (w:World) (v:Value) (l:List Int):Prop :=
 ∃ g cap xF t,v = .slice (some (U g 0)) l.length cap∧B ≤ g∧w.heap[g]? = some (.cells xF t (0,0))∧l.length ≤ cap∧cap ≤ xF.size∧cap ≤ maxLen∧l.length ≤ 1073741824 ∧
  xF.toList.take l.length = l.map (Value.int .u8)
theorem cell_head {w:World} {g t:Nat} {xF:Array Value} {l:List Int} (hg:w.heap[g]? = some (.cells xF t (0,0))) (ht:xF.toList.take l.length = l.map (Value.int .u8)) {i:Nat} (hi:i < l.length) :
  w.cell? (U g i) = some (.int .u8 (l.getD i 0)):=by
 rw [cell_of_row w g i xF t (0,0) hg]
 have Q:(xF.toList.take l.length)[i]? = (l.map (Value.int .u8))[i]?:=by rw [ht]
 rw [List.getElem?_take,if_pos hi,List.getElem?_map,yH hi] at Q
 simpa [hi] using Q
theorem OwnT.own {B:Nat} {w:World} {v:Value} {l:List Int} (h:OwnT B w v l):Own B w v l:=by
 obtain ⟨g,cap,xF,t,rfl,Y,hg,_,_,_,hl,ht⟩:=h
 exact ⟨g,cap,rfl,Y,(yY.1 hg).1,hl,fun i hi=>by rw [Nat.zero_add]; exact cell_head hg ht hi,fun i _=>by simp [World.frozen?,hg]⟩
theorem OwnT.ge {B:Nat} {w:World} {v:Value} {l:List Int} (h:OwnT B w v l):∀ k,v.ownBlock = some k→B ≤ k:=by
 obtain ⟨g,cap,xF,t,rfl,Y,_⟩:=h
 intro k hk
 simp [Value.ownBlock] at hk
 omega
theorem ownT_row {B:Nat} {w:World} {v:Value} {l:List Int} (xD:0 < l.length) (xA:l.length ≤ 1073741824)
  (h:w.ownsRow B 5 1 v l.length (l.map (Value.int .u8))):OwnT B w v l:=by
 rcases h.2 with ⟨_,h0⟩ | ⟨g,cap,xF,rfl,Y,hg,Q,E,hcur,kT⟩
 ·omega
 ·exact ⟨g,cap,xF,_,rfl,Y,hg,Q,by omega,E,xA,by simpa using kT⟩
def Arr (yc B:Nat) (w wr:World) (done:List Int):Prop :=
 ∃ xF t,wr.heap[B]? = some (.cells xF t (0,0))∧xF.size = yc∧done.length ≤ yc∧xF.toList.take done.length = done.map (Value.int .u8)∧Below B w wr
theorem Arr.below {yc B:Nat} {w wr:World} {done:List Int} (h:Arr yc B w wr done):Below B w wr:=by
 obtain ⟨_,_,_,_,_,_,h⟩:=h; exact h
theorem Arr.lt {yc B:Nat} {w wr:World} {done:List Int} (h:Arr yc B w wr done):B < wr.heap.size:=by
 obtain ⟨_,_,h,_⟩:=h; exact (yY.1 h).1
theorem Arr.some {yc B:Nat} {w wr:World} {done:List Int} (h:Arr yc B w wr done) {j:Nat} (O:j < yc):∃ v,wr.cell? (U B j) = .some v:=by
 obtain ⟨xF,t,Q,E,_⟩:=h
 exact ⟨_,(cell_of_row wr B j xF t (0,0) Q).trans (Array.getElem?_eq_getElem (by omega))⟩
theorem Arr.free {yc B:Nat} {w wr:World} {done:List Int} (h:Arr yc B w wr done) (j:Nat):wr.frozen? (U B j) = false:=by
 obtain ⟨xF,t,Q,_⟩:=h
 simp [World.frozen?,Q]
theorem arr_start {yc:Nat} (w:World) (c:Array Value) (t:TypeId) (h:c.size = yc):Arr yc w.heap.size w (w.alloc (.cells c t)) [] :=
 ⟨c,t,heap_alloc_new w _,h,Nat.zero_le _,rfl,fE _ _⟩
theorem arr_step {yc B:Nat} {w wr:World} {done:List Int} (x:Int) (h:Arr yc B w wr done) (hM:done.length < yc):Arr yc B w (wr.setCell (U B done.length) (.int .u8 x)) (done ++ [x]):=by
 obtain ⟨xF,t,Q,E,h3,h4,h5⟩:=h
 refine ⟨xF.setIfInBounds done.length (.int .u8 x),t,by simp [World.setCell,Array.getElem?_modify,Q],by simpa using E,by simp; omega,?_,h5.setCell ya _⟩
 rw [yP,List.length_singleton,List.take_succ_eq_append_getElem (by simp; omega)]
 simp only [Array.toList_setIfInBounds,List.map_append,List.map_cons,List.map_nil]
 rw [List.take_set_of_le ya,h4]
 simp
theorem arr_own {yc B cap:Nat} {w wr:World} {l:List Int} (h:Arr yc B w wr l) (hc:cap = yc) (hM':yc ≤ 1073741824):OwnT B wr (.slice (some (U B 0)) l.length cap) l:=by
 obtain ⟨xF,t,Q,E,h3,h4,_⟩:=h
 exact ⟨B,cap,xF,t,rfl,Nat.le_refl _,Q,by omega,by omega,by unfold maxLen; omega,by omega,h4⟩
theorem own_rd {B:Nat} {w:World} {v:Value} {l:List Int} (h:Own B w v l):Rd w v l:=by
 obtain ⟨g,cap,rfl,_,_,hl,hc,_⟩:=h
 exact ⟨_,cap,rfl,hl,fun _=>⟨g,0,rfl,hc⟩⟩
theorem zV {B:Nat} {a w:World} (h:Below B a w) (n:Nat):Below B a (w.drewN n):=h.trans ⟨rfl,rfl,rfl,Nat.le_refl _,fun _ _=>rfl⟩
def Bts (l:List Int):Prop:=∀ x ∈ l,0 ≤ x∧x ≤ 255
theorem bts_get {l:List Int} (h:Bts l) (k:Nat):0 ≤ l.getD k 0∧l.getD k 0 ≤ 255:=by
 by_cases hk:k < l.length
 ·have e:l.getD k 0 = l[k]:=by simp [hk]
  rw [e]; exact h _ (List.getElem_mem hk)
 ·simp [Nat.le_of_not_lt hk]
theorem rd_below {B:Nat} {w w':World} {v:Value} {l:List Int} (h:Rd w v l) (Y:Below B w w') (hB:w.heap.size ≤ B):Rd w' v l:=by
 obtain ⟨a,cap,rfl,hl,hc⟩:=h
 refine ⟨a,cap,rfl,hl,fun xD=>?_⟩
 obtain ⟨b,off,rfl,xr⟩:=hc xD
 exact ⟨b,off,rfl,fun i hi=>(Y.cell (p:=(U b (off + i))) (yJ (yK w _ (xr i hi)) hB)).trans (xr i hi)⟩
theorem rd_len {w:World} {v:Value} {l:List Int} (h:Rd w v l):∃ a cap,v = .slice a l.length cap:=by
 obtain ⟨a,cap,rfl,_⟩:=h; exact ⟨a,cap,rfl⟩
theorem take_get (l:List Int) (k:Nat) (h:k < l.length):l.take (k + 1) = l.take k ++ [l.getD k 0]:=by
 rw [List.take_succ_eq_append_getElem h]; simp [h]
def nanB (x:Nat):Bool:=FloatKind.f64.format.order x x != some Ordering.eq
theorem fbits (x:Nat) (w:World):(callFunc 142 #[yj x]).run Tryz.prog w = .ok (.value (.int .u64 x)) w:=by
 rw [run_callFunc_extern (e:=Extern.MathFloatBits.float64bits) Tryz.func142 (by kernel_rfl) (by kernel_rfl) (by kernel_rfl) (by kernel_rfl)]
 rfl
theorem eu (x:Nat) (w:World) :
  Calls Tryz.prog 165 #[yj x] w fun e w'=>e = ym (.bool (nanB x))∧w' = w:=by
 go_enter Tryz.func165,Tryz.ntmps165
 go_wp2
 go_ret
 exact ⟨rfl,rfl⟩
def fbit (x:Nat):Nat:=if nanB x = true then 9221120237041090560 else x
theorem fd (x:Nat) (w:World) :
  Calls Tryz.prog 123 #[yj x] w fun e w'=>e = ym (.int .u64 (fbit x))∧w' = w:=by
 have Y:=fbits
 cases h:nanB x
 case true =>
  have HX:Hid (fbit x = 9221120237041090560):=if_pos h
  go_enter Tryz.func123,Tryz.ntmps123
  go_wp2_with (go_at_call 165; refine (eu _ _).mono ?_; rintro e w' ⟨rfl,rfl⟩)
  go_ret
  exact ⟨by rw [H HX]; rfl,rfl⟩
 case false =>
  have HX:Hid (fbit x = x):=if_neg (by rw [h]; decide)
  go_enter Tryz.func123,Tryz.ntmps123
  go_wp2_with (go_at_call 165; refine (eu _ _).mono ?_; rintro e w' ⟨rfl,rfl⟩)
  go_ret
  exact ⟨by rw [H HX]; rfl,rfl⟩
end Go.Proofs.YtnphbkgfjanmgaaGreatDoor
namespace Go.Proofs.YtnphbkgfjanmgaaGreatDoor
open Go Ieee

theorem fb:double.fractionBits = 52:=rfl
theorem lp:double.leastPlace = -1074:=by decide
theorem bin:double.binade = 4503599627370496:=by decide
theorem inf:double.infRung = 9218868437227405312:=by decide
theorem sw:double.signWeight = 9223372036854775808:=by decide
theorem read_mag {x:Nat} {s:Bool} {m:Nat} {i:Int} (h:double.read x = .number s m i):m < 9007199254740992:=by
 unfold Format.read at h
 simp only [bin,inf,sw] at h
 split at h
 ·simp only [Datum.number.injEq] at h; omega
 ·split at h
  ·simp only [Datum.number.injEq] at h; omega
  ·split at h <;> cases h
theorem read_zero:double.read 0 = .number false 0 (-1074):=by decide
theorem read_top:double.read 4687829947429945344 = .number false 8589934592000000 (-35):=by decide
theorem read_four:double.read 4616189618054758400 = .number false 4503599627370496 (-50):=by decide
theorem signed_neg (m a:Nat):signed true m a ≤ 0:=by
 show -((m <<< a:Nat):Int) ≤ 0
 exact Int.neg_nonpos_of_nonneg (Int.natCast_nonneg _)
theorem above_zero {x:Nat} (h:double.order x 0 = some .gt):double.read x = .infinity false ∨ ∃ m i,double.read x = .number false m i∧m ≠ 0:=by
 unfold Format.order at h
 rw [read_zero] at h
 cases hx:double.read x with
 | nan s f=>rw [hx] at h; simp [Datum.order] at h
 | infinity s=>cases s with
  | false=>exact .inl rfl
  | true=>rw [hx] at h; simp [Datum.order] at h
 | number s m i =>
  rw [hx] at h
  simp only [Datum.order,Option.some.injEq] at h
  have hz:∀ b,signed false 0 b = 0:=fun b=>by simp [signed]
  rw [hz] at h
  have hgt:=Std.compare_eq_gt.1 h
  cases s with
  | false =>
   refine .inr ⟨m,i,rfl,fun e=>?_⟩
   subst e
   rw [hz] at hgt
   exact absurd hgt (by decide)
  | true =>
   exact absurd hgt (Int.not_lt.2 (signed_neg m _))
theorem log_le {m k:Nat} (hm:m ≠ 0) (h:m < 2 ^ k):m.log2 < k:=(Nat.log2_lt hm).2 h
theorem within {m:Nat} {i:Int} {x:Nat} (hx:double.read x = .number false m i) (hm:m ≠ 0) (h:double.order x 4687829947429945344 = some .lt ∨ double.order x 4687829947429945344 = some .eq):i + m.log2 ≤ 17:=by
 have hmag:=read_mag hx
 unfold Format.order at h
 rw [read_top,hx] at h
 simp only [Datum.order,Option.some.injEq] at h
 have qi:signed false m (i - min i (-35)).toNat ≤ signed false 8589934592000000 (-35 - min i (-35)).toNat:=by
  rcases h with h | h
  ·exact Int.le_of_lt (Std.compare_eq_lt.1 h)
  ·exact Int.le_of_eq (Std.LawfulEqCmp.eq_of_compare h)
 by_cases hi:i < -35
 ·have:=log_le hm (show m < 2 ^ 53 by omega)
  omega
 ·have e1:min i (-35) = -35:=by omega
  rw [e1] at qi
  have e2:((-35:Int) - -35).toNat = 0:=by decide
  rw [e2] at qi
  have hle':(m <<< (i - -35).toNat:Nat) ≤ (8589934592000000 <<< 0:Nat):=by
   have:((m <<< (i - -35).toNat:Nat):Int) ≤ ((8589934592000000 <<< 0:Nat):Int):=qi
   omega
  rw [Nat.shiftLeft_eq,Nat.shiftLeft_zero] at hle'
  have hlog:m.log2 + (i - -35).toNat < 53:=by
   have Q:2 ^ m.log2 ≤ m:=Nat.log2_self_le hm
   have E:2 ^ (m.log2 + (i - -35).toNat) ≤ m * 2 ^ (i - -35).toNat:=by
    rw [Nat.pow_add]; exact Nat.mul_le_mul_right _ Q
   have h3:2 ^ (m.log2 + (i - -35).toNat) < 2 ^ 53:=by omega
   exact (Nat.pow_lt_pow_iff_right (by decide)).1 h3
  omega
theorem log_up {m:Nat} (hm:m ≠ 0):(m * 4503599627370496).log2 = m.log2 + 52:=by
 have h:=(Nat.log2_eq_iff hm).1 rfl
 refine (Nat.log2_eq_iff (by omega)).2 ?_
 rw [Nat.pow_add,show m.log2 + 52 + 1 = (m.log2 + 1) + 52 by omega,Nat.pow_add 2 (m.log2 + 1) 52,show (2:Nat) ^ 52 = 4503599627370496 from rfl]
 exact ⟨Nat.mul_le_mul_right _ h.1,Nat.mul_lt_mul_of_pos_right h.2 (by decide)⟩
theorem cut_le (n p drop:Nat) (hn:n < 2 ^ (p + 53)) (hp:p ≤ drop) (hl:p ≤ n.log2 + 2):Toward.even.cut false n drop ≤ 9007199254740993:=by
 unfold Toward.cut
 simp only
 have hg:2 ^ p ≤ 1 <<< min drop (n.log2 + 2):=by
  rw [Nat.one_shiftLeft]
  exact Nat.pow_le_pow_right (by decide) (by omega)
 have hq:n / (1 <<< min drop (n.log2 + 2)) ≤ 9007199254740992:=by
  refine yN (Nat.div_le_div_left hg (Nat.two_pow_pos p)) ?_
  have:n / 2 ^ p < 2 ^ 53:=by
   rw [Nat.div_lt_iff_lt_mul (Nat.two_pow_pos p),← Nat.pow_add,Nat.add_comm]
   exact hn
  omega
 have Y:∀ b:Bool,b.toNat ≤ 1:=by decide
 have:=Y (decide (1 <<< min drop (n.log2 + 2) < 2 * (n % 1 <<< min drop (n.log2 + 2))) || (1 <<< min drop (n.log2 + 2) == 2 * (n % 1 <<< min drop (n.log2 + 2)) && n / 1 <<< min drop (n.log2 + 2) % 2 == 1))
 omega
theorem near_le {m:Nat} {i:Int} (hm:m ≠ 0) (hi:i + m.log2 ≤ 17):double.nearest false (m * 4503599627370496) (i + -50) < 1075 * 4503599627370496:=by
 have hmag:¬ m * 4503599627370496 = 0:=by omega
 have hlog:=log_up hm
 have xI:m * 4503599627370496 < 2 ^ (m.log2 + 53):=by
  have h:=((Nat.log2_eq_iff hm).1 rfl).2
  rw [show m.log2 + 53 = (m.log2 + 1) + 52 by omega,Nat.pow_add 2 (m.log2 + 1) 52,show (2:Nat) ^ 52 = 4503599627370496 from rfl]
  exact Nat.mul_lt_mul_of_pos_right h (by decide)
 unfold Format.nearest
 rw [if_neg hmag]
 simp only [hlog,fb,lp,bin,inf,Format.word,Bool.false_eq_true,if_false]
 have hlast:i + -50 + ((m.log2 + 52:Nat):Int) - (52:Nat) ≤ max (i + -50 + ((m.log2 + 52:Nat):Int) - (52:Nat)) (-1074):=Int.le_max_left _ _
 have hup:max (i + -50 + ((m.log2 + 52:Nat):Int) - (52:Nat)) (-1074) ≤ -33:=Int.max_le.2 ⟨by omega,by omega⟩
 generalize max (i + -50 + ((m.log2 + 52:Nat):Int) - (52:Nat)) (-1074) = last at *
 have e0:(i + -50 - last).toNat = 0:=by omega
 rw [e0,Nat.shiftLeft_zero]
 have hc:=cut_le (m * 4503599627370496) m.log2 (last - (i + -50)).toNat xI (by omega) (by omega)
 generalize Toward.even.cut false (m * 4503599627370496) (last - (i + -50)).toNat = kept at *
 have e1:(last - -1074).toNat ≤ 1041:=by omega
 have e2:(last - -1074).toNat * 4503599627370496 ≤ 1041 * 4503599627370496:=Nat.mul_le_mul_right _ e1
 omega
theorem whole {r:Nat} (h:r < 1075 * 4503599627370496):∃ n:Nat,(double.read r).toInt .zero = some (n:Int)∧n < 9007199254740992:=by
 have hneg:(r / 9223372036854775808 % 2 == 1) = false:=by simp; omega
 have hr:r % 9223372036854775808 = r:=by omega
 have cutz:∀ (n d:Nat),Toward.zero.cut false n d ≤ n:=by
  intro n d
  unfold Toward.cut
  simp only [Bool.toNat_false,Nat.add_zero]
  exact Nat.div_le_self _ _
 unfold Format.read
 simp only [bin,inf,sw,hneg,hr,lp]
 split
 ·refine ⟨Toward.zero.cut false (r <<< (-1074:Int).toNat) (1074:Int).toNat,?_,?_⟩
  ·simp [Datum.toInt,Datum.integral,signed]
  ·have:=cutz (r <<< (-1074:Int).toNat) (1074:Int).toNat
   rw [show (-1074:Int).toNat = 0 from rfl,Nat.shiftLeft_zero] at this ⊢
   omega
 ·rw [if_pos (by omega)]
  have hi:(-1074 + ((r / 4503599627370496 - 1:Nat):Int)).toNat = 0:=by omega
  refine ⟨Toward.zero.cut false ((4503599627370496 + r % 4503599627370496) <<< (-1074 + ((r / 4503599627370496 - 1:Nat):Int)).toNat) (-(-1074 + ((r / 4503599627370496 - 1:Nat):Int))).toNat,?_,?_⟩
  ·simp [Datum.toInt,Datum.integral,signed]
  ·have:=cutz ((4503599627370496 + r % 4503599627370496) <<< (-1074 + ((r / 4503599627370496 - 1:Nat):Int)).toNat) (-(-1074 + ((r / 4503599627370496 - 1:Nat):Int))).toNat
   rw [hi,Nat.shiftLeft_zero] at this ⊢
   omega
theorem price_four {x:Nat} (h0:double.order x 0 = some .gt) (Q:double.order x 4687829947429945344 = some .lt ∨ double.order x 4687829947429945344 = some .eq) :
  ∃ (r n:Nat),double.mul x 4616189618054758400 = some r∧(double.read r).toInt .zero = some (n:Int)∧n < 9007199254740992:=by
 rcases above_zero h0 with hx | ⟨m,i,hx,hm⟩
 ·exfalso
  unfold Format.order at Q
  rw [hx,read_top] at Q
  simp [Datum.order] at Q
 ·have hw:=within hx hm Q
  have jI:double.mul x 4616189618054758400 = some (double.nearest false (m * 4503599627370496) (i + -50)):=by
   unfold Format.mul
   rw [hx,read_four]
   rfl
  obtain ⟨n,E,h3⟩:=whole (near_le hm hw)
  exact ⟨_,n,jI,E,h3⟩
end Go.Proofs.YtnphbkgfjanmgaaGreatDoor
namespace Go.Proofs.YtnphbkgfjanmgaaGreatDoor
open Go.RowKit
def tkR (x:Nat):Nat:=(FloatKind.f64.format.mul x 4616189618054758400).getD 0
def tkN (x:Nat):Int:=((FloatKind.f64.decode (tkR x)).toInt .zero).getD 0
def tkOk (x:Nat):Bool:=(FloatKind.f64.format.order x 0 == some Ordering.gt) && ((FloatKind.f64.format.order x 4687829947429945344 == some Ordering.lt) || (FloatKind.f64.format.order x 4687829947429945344 == some Ordering.eq)) &&
 (FloatKind.f64.format.order (floatOfInt .f64 (tkN x)) (tkR x) == some Ordering.eq)
def tk (x:Nat):Int:=if tkOk x = true then tkN x else 0
theorem ex (x:Nat) (w:World) :
  Calls Tryz.prog 141 #[yj x] w fun e w'=>e = ym (.tuple #[I (tk x),.bool (tkOk x)])∧w' = w:=by
 by_cases h0:FloatKind.f64.format.order x 0 = some Ordering.gt
 ·by_cases Q:FloatKind.f64.format.order x 4687829947429945344 = some Ordering.lt ∨ FloatKind.f64.format.order x 4687829947429945344 = some Ordering.eq
  ·obtain ⟨r,n,jI,pW,hn⟩:=price_four h0 Q
   have hn':(n:Int) < 9007199254740992:=by omega
   have eR:tkR x = r:=by unfold tkR; rw [show FloatKind.f64.format.mul x 4616189618054758400 = some r from jI]; rfl
   have eN:tkN x = n:=by unfold tkN; rw [eR,show (FloatKind.f64.decode r).toInt .zero = some (n:Int) from pW]; rfl
   have b0:(FloatKind.f64.format.order x 0 == some Ordering.gt) = true:=by rw [h0]; rfl
   have hm:∀ W,(binOp .mul 42 (yj x) (yj 4616189618054758400)).run Tryz.prog W = .ok (yj r) W:=fun W=>by
    have:FloatKind.f64.format.mul x 4616189618054758400 = some r:=jI
    simp [binOp,Op.floatArith,this]
   have hc:∀ W,(convert 42 3 (yj r)).run Tryz.prog W = .ok (I n) W:=fun W=>by
    have E:(FloatKind.f64.decode r).toInt .zero = some (n:Int):=pW
    have Y:IntKind.i64.min ≤ (n:Int)∧(n:Int) ≤ IntKind.i64.max:=by
     rw [show IntKind.i64.min = -9223372036854775808 by decide,show IntKind.i64.max = 9223372036854775807 by decide]; omega
    simp [convert,run_underlying Tryz.underlying42,run_underlying Tryz.underlying3,Conv.floatToInt,E,Y.1]
    intro h
    omega
   have uO:((FloatKind.f64.format.order x 4687829947429945344 == some Ordering.lt) || (FloatKind.f64.format.order x 4687829947429945344 == some Ordering.eq)) = true:=by
    rcases Q with Q | Q <;> rw [Q] <;> rfl
   have vw:tkOk x = (FloatKind.f64.format.order (floatOfInt .f64 n) r == some Ordering.eq):=by unfold tkOk; rw [eN,eR,b0,uO]; rfl
   clear jI pW h0 uO
   cases he:(FloatKind.f64.format.order (floatOfInt .f64 n) r == some Ordering.eq)
   all_goals
    have he2:(FloatKind.f64.format.order (floatOfInt .f64 n) r != some Ordering.eq) = !(FloatKind.f64.format.order (floatOfInt .f64 n) r == some Ordering.eq):=rfl
    rw [he] at he2
    rw [he] at vw
   ·have HT:Hid (tk x = 0∧tkOk x = false):=⟨by unfold tk; rw [vw]; rfl,vw⟩
    clear vw eN eR
    rcases Q with Q | Q
    ·have b1:(FloatKind.f64.format.order x 4687829947429945344 == some Ordering.lt) = true:=by rw [Q]; rfl
     have b2:(FloatKind.f64.format.order x 4687829947429945344 == some Ordering.eq) = false:=by rw [Q]; rfl
     clear Q
     go_enter Tryz.func141,Tryz.ntmps141
     go_wp2
     go_ret2
     exact ⟨by rw [(H HT).1,(H HT).2]; rfl,rfl⟩
    ·have b1:(FloatKind.f64.format.order x 4687829947429945344 == some Ordering.lt) = false:=by rw [Q]; rfl
     have b2:(FloatKind.f64.format.order x 4687829947429945344 == some Ordering.eq) = true:=by rw [Q]; rfl
     clear Q
     go_enter Tryz.func141,Tryz.ntmps141
     go_wp2
     go_ret2
     exact ⟨by rw [(H HT).1,(H HT).2]; rfl,rfl⟩
   ·have HT:Hid (tk x = n∧tkOk x = true):=⟨by unfold tk; rw [vw,eN]; rfl,vw⟩
    clear vw eN eR
    rcases Q with Q | Q
    ·have b1:(FloatKind.f64.format.order x 4687829947429945344 == some Ordering.lt) = true:=by rw [Q]; rfl
     have b2:(FloatKind.f64.format.order x 4687829947429945344 == some Ordering.eq) = false:=by rw [Q]; rfl
     clear Q
     go_enter Tryz.func141,Tryz.ntmps141
     go_wp2
     go_ret2
     exact ⟨by rw [(H HT).1,(H HT).2]; rfl,rfl⟩
    ·have b1:(FloatKind.f64.format.order x 4687829947429945344 == some Ordering.lt) = false:=by rw [Q]; rfl
     have b2:(FloatKind.f64.format.order x 4687829947429945344 == some Ordering.eq) = true:=by rw [Q]; rfl
     clear Q
     go_enter Tryz.func141,Tryz.ntmps141
     go_wp2
     go_ret2
     exact ⟨by rw [(H HT).1,(H HT).2]; rfl,rfl⟩
  ·have b0:(FloatKind.f64.format.order x 0 == some Ordering.gt) = true:=by rw [h0]; rfl
   have b1:(FloatKind.f64.format.order x 4687829947429945344 == some Ordering.lt) = false:=by rw [xd]; exact fun h=>Q (.inl h)
   have b2:(FloatKind.f64.format.order x 4687829947429945344 == some Ordering.eq) = false:=by rw [xd]; exact fun h=>Q (.inr h)
   have vw:tkOk x = false:=by unfold tkOk; rw [b0,b1,b2]; rfl
   have HT:Hid (tk x = 0∧tkOk x = false):=⟨by unfold tk; rw [vw]; rfl,vw⟩
   clear h0 Q vw
   go_enter Tryz.func141,Tryz.ntmps141
   go_wp2
   go_ret2
   exact ⟨by rw [(H HT).1,(H HT).2]; rfl,rfl⟩
 ·have b0:(FloatKind.f64.format.order x 0 == some Ordering.gt) = false:=by rw [xd]; exact h0
  have vw:tkOk x = false:=by unfold tkOk; rw [b0]; rfl
  have HT:Hid (tk x = 0∧tkOk x = false):=⟨by unfold tk; rw [vw]; rfl,vw⟩
  clear h0 vw
  go_enter Tryz.func141,Tryz.ntmps141
  go_wp2
  go_ret2
  exact ⟨by rw [(H HT).1,(H HT).2]; rfl,rfl⟩
theorem zc {C:Nat} {w w':World} {b o:Nat} {L:List Value} (h:w.rangeAt b o L) (Y:Below C w w') (hC:b < C):w'.rangeAt b o L :=
 fun j v hv=>(Y.cell (p:=(U b (o + j))) hC).trans (h j v hv)
theorem zo {C:Nat} {w w':World} {b o n:Nat} (h:w.there b o n) (Y:Below C w w') (hC:b < C):w'.there b o n :=
 fun j O=>⟨by rw [Y.cell (p:=(U b (o + j))) hC]; exact (h j O).1,by rw [Y.frozen (p:=(U b (o + j))) hC]; exact (h j O).2⟩
theorem zw {G:Option Nat} {w w':World} {b o:Nat} {L:List Value} (h:w.rangeAt b o L) (hg:w.grownBy w' G) (Y:b < w.heap.size) (xD:some b ≠ G):w'.rangeAt b o L :=
 fun j v hv=>(yQ (a:=(U b (o + j))) (hg.block b Y xD)).trans (h j v hv)
theorem eF {G:Option Nat} {w w':World} {b o n:Nat} (h:w.there b o n) (hg:w.grownBy w' G) (Y:b < w.heap.size) (xD:some b ≠ G):w'.there b o n :=
 fun j O=>⟨by rw [yQ (a:=(U b (o + j))) (hg.block b Y xD)]; exact (h j O).1,by rw [World.frozen?_of_block (a:=(U b (o + j))) (hg.block b Y xD)]; exact (h j O).2⟩
theorem cK {w w':World} {B:Nat} {G:Option Nat} (h:Below B w w') (hB:w.heap.size ≤ B):w.grownBy w' G :=
 ⟨h.os,h.tape,h.output,h.size,fun k hk _=>h.block k (by omega)⟩
theorem dR {w w':World} {G:Option Nat} {B:Nat} (h:w.grownBy w' G) (hG:∀ g,G = some g→B ≤ g) (hs:B ≤ w.heap.size):Below B w w' :=
 ⟨h.os,h.tape,h.output,h.size,fun k hk=>h.block k (by omega) (fun e=>by have:=hG k e.symm; omega)⟩
section
variable {α:Type} (f:α→List Value) (sz:Nat)

def RdR (w:World) (v:Value) (l:List α):Prop :=
 ∃ (a:Option Addr) (cap:Nat),v = .slice a l.length cap∧l.length ≤ 1073741824 ∧
  (l ≠ []→∃ b off,a = some (U b off)∧b < w.heap.size∧∀ i c,l[i]? = some c→w.rangeAt b (off + i * sz) (f c))
def OwnR (B:Nat) (w:World) (v:Value) (l:List α):Prop :=
 ∃ (a:Option Addr) (cap:Nat),v = .slice a l.length cap∧l.length ≤ 1073741824 ∧
  (l ≠ []→∃ g,a = some (U g 0)∧B ≤ g∧g < w.heap.size∧(∀ i c,l[i]? = some c→w.rangeAt g (0 + i * sz) (f c))∧w.there g 0 (l.length * sz))
def FillR (n B:Nat) (w wr:World) (done:List α):Prop :=
 B < wr.heap.size∧done.length ≤ n∧(∀ i c,done[i]? = some c→wr.rangeAt B (0 + i * sz) (f c))∧wr.there B 0 (n * sz)∧Below B w wr
variable {f sz}

theorem dJ {B:Nat} {w:World} {v:Value} {l:List α} (h:OwnR f sz B w v l):RdR f sz w v l:=by
 obtain ⟨a,cap,rfl,hl,h⟩:=h
 refine ⟨a,cap,rfl,hl,fun xD=>?_⟩
 obtain ⟨g,rfl,_,E,h3,_⟩:=h xD
 exact ⟨g,0,rfl,E,h3⟩
theorem zh {C:Nat} {w w':World} {v:Value} {l:List α} (h:RdR f sz w v l) (Y:Below C w w') (hC:w.heap.size ≤ C):RdR f sz w' v l:=by
 obtain ⟨a,cap,rfl,hl,h⟩:=h
 refine ⟨a,cap,rfl,hl,fun xD=>?_⟩
 obtain ⟨b,off,rfl,Q,E⟩:=h xD
 exact ⟨b,off,rfl,yJ Q Y.size,fun i c hc=>zc (E i c hc) Y (yJ Q hC)⟩
theorem ownR_below {B C:Nat} {w w':World} {v:Value} {l:List α} (h:OwnR f sz B w v l) (Y:Below C w w') (hC:w.heap.size ≤ C):OwnR f sz B w' v l:=by
 obtain ⟨a,cap,rfl,hl,h⟩:=h
 refine ⟨a,cap,rfl,hl,fun xD=>?_⟩
 obtain ⟨g,rfl,h0,Q,E,h3⟩:=h xD
 exact ⟨g,rfl,h0,yJ Q Y.size,fun i c hc=>zc (E i c hc) Y (yJ Q hC),zo h3 Y (yJ Q hC)⟩
theorem rdR_grown {G:Option Nat} {w w':World} {v:Value} {l:List α} (h:RdR f sz w v l) (hg:w.grownBy w' G) (hG:∀ g,G = some g→w.heap.size ≤ g):RdR f sz w' v l:=by
 obtain ⟨a,cap,rfl,hl,h⟩:=h
 refine ⟨a,cap,rfl,hl,fun xD=>?_⟩
 obtain ⟨b,off,rfl,Q,E⟩:=h xD
 exact ⟨b,off,rfl,yJ Q hg.size,fun i c hc=>zw (E i c hc) hg Q (fun e=>by have:=hG b e.symm; omega)⟩
theorem zj {B:Nat} {w:World} (b:Nat) (Y:B ≤ b):∀ (vs:List Value) (o:Nat) (wr:World),Below B w wr→Below B w (wr.setCells b o vs)
 | [],_,_,h=>h
 | v :: r,o,wr,h=>by rw [World.setCells]; exact zj b Y r (o + 1) _ (h.setCell (show B ≤ ((U b o):Addr).block from Y) v)
theorem dm (b:Nat):∀ (vs:List Value) (o:Nat) (wr:World),(wr.setCells b o vs).heap.size = wr.heap.size
 | [],_,_=>rfl
 | v :: r,o,wr=>by rw [World.setCells,dm b r (o + 1)]; simp [World.setCell]
theorem bY {w:World} {g n t:Nat} {xF:Array Value} (hg:w.heap[g]? = some (.cells xF t (0,0))) (hn:n ≤ xF.size):w.there g 0 n:=fun j O =>
 ⟨by rw [cell_of_row w g (0 + j) xF t (0,0) hg,Array.getElem?_eq_getElem (by omega)]; rfl,by simp [World.frozen?,hg]⟩
theorem fill_made {w w':World} {n e:Nat} {xs:List Value} (h:w'.ownsRow w.heap.size e sz (.slice (some (yq w 0)) n n) n xs) (hg:w.grownBy w' none):FillR f sz n w.heap.size w w' []:=by
 rcases h.2 with ⟨h0,_⟩ | ⟨g,cap,xF,hv,_,hh,_,_,hcur,_⟩
 ·simp at h0
 ·simp only [Value.slice.injEq,Option.some.injEq,Addr.mk.injEq,and_true,true_and] at hv
  obtain ⟨rfl,rfl⟩:=hv
  exact ⟨(yY.1 hh).1,Nat.zero_le _,by simp,bY hh (by omega),(Below.refl _ w).grown hg ya (fun k hk=>by simp at hk)⟩
theorem fill_below {n B C:Nat} {w wr wr':World} {done:List α} (h:FillR f sz n B w wr done) (Y:Below C wr wr') (hC:wr.heap.size ≤ C):FillR f sz n B w wr' done:=by
 obtain ⟨Q,E,h3,h4,h5⟩:=h
 exact ⟨yJ Q Y.size,E,fun i c hc=>zc (h3 i c hc) Y (by omega),zo h4 Y (by omega),h5.trans (Y.mono (by omega))⟩
theorem fill_step {n B:Nat} {w wr:World} {done:List α} (x:α) (h:FillR f sz n B w wr done) (hn:done.length < n) (hf:∀ c,(f c).length = sz):FillR f sz n B w (wr.setCells B (done.length * sz) (f x)) (done ++ [x]):=by
 obtain ⟨Q,E,h3,h4,h5⟩:=h
 have qi:done.length * sz + sz ≤ n * sz:=by
  have:=Nat.mul_le_mul_right sz (show done.length + 1 ≤ n by omega)
  rw [Nat.add_mul] at this; omega
 refine ⟨by rw [dm]; exact Q,by simp; omega,fun i c hc=>?_,xb h4 _ _ _,zj B ya _ _ _ h5⟩
 by_cases hi:i < done.length
 ·rw [List.getElem?_append_left hi] at hc
  refine World.rangeAt_setCells_apart (h3 i c hc) _ _ _ (.inr (.inl ?_))
  rw [hf c]
  have:=Nat.mul_le_mul_right sz (show i + 1 ≤ done.length by omega)
  rw [Nat.add_mul] at this; omega
 ·have xA:i < (done ++ [x]).length:=(yG.1 hc).1
  have qa:i = done.length:=by simp at xA; omega
  subst qa
  simp only [List.getElem?_append_right ya,Nat.sub_self,List.getElem?_cons_zero,Option.some.injEq] at hc
  subst hc
  rw [Nat.zero_add]
  exact yX _ _ _ _ (fun j O=>by
   have:=h4 (done.length * sz + j) (by rw [hf] at O; omega)
   rw [Nat.zero_add] at this; exact this)
theorem fill_own {n B:Nat} {w wr:World} {l:List α} (h:FillR f sz n B w wr l) (hl:l.length = n) (hn:n ≤ 1073741824):OwnR f sz B wr (.slice (some (U B 0)) n n) l:=by
 obtain ⟨Q,E,h3,h4,h5⟩:=h
 exact ⟨_,n,by rw [hl],by omega,fun _=>⟨B,rfl,Nat.le_refl _,Q,h3,by rw [hl]; exact h4⟩⟩
theorem fill_there {n B i:Nat} {w wr:World} {done:List α} (h:FillR f sz n B w wr done) (hi:i < n):wr.there B (i * sz) sz:=fun j O=>by
 have qi:=Nat.mul_le_mul_right sz (show i + 1 ≤ n by omega)
 rw [Nat.add_mul] at qi
 have:=h.2.2.2.1 (i * sz + j) (by omega)
 rw [Nat.zero_add] at this; exact this
theorem flat_get (hf:∀ c,(f c).length = sz):∀ (l:List α) (i j:Nat) (c:α),l[i]? = some c→j < sz→(l.flatMap f)[i * sz + j]? = (f c)[j]?
 | [],_,_,_,h,_=>by simp at h
 | a :: l,0,j,c,h,O=>by
  simp at h; subst h
  rw [List.flatMap_cons,List.getElem?_append_left (by rw [hf]; omega)]; simp
 | a :: l,i + 1,j,c,h,O=>by
  simp at h
  rw [List.flatMap_cons,List.getElem?_append_right (by rw [hf,Nat.add_mul]; omega),hf,← flat_get hf l i j c h O]
  congr 1
  rw [Nat.add_mul]; omega
theorem zZ (hf:∀ c,(f c).length = sz):∀ (l:List α),(l.flatMap f).length = l.length * sz
 | []=>by simp
 | a :: l=>by rw [List.flatMap_cons,yP,hf,zZ hf l,List.length_cons,Nat.add_mul]; omega
theorem ownR_row {B e:Nat} {w:World} {v:Value} {l:List α} (hf:∀ c,(f c).length = sz) (hl:l.length ≤ 1073741824) (h:w.ownsRow B e sz v l.length (l.flatMap f)):OwnR f sz B w v l:=by
 rcases h.2 with ⟨rfl,h0⟩ | ⟨g,cap,xF,rfl,Y,hg,uq,_,hcur,kT⟩
 ·exact ⟨none,0,by rw [h0],hl,fun xD=>absurd (List.length_eq_zero_iff.1 h0) xD⟩
 ·have qi:=Nat.mul_le_mul_right sz uq
  refine ⟨_,cap,rfl,hl,fun _=>⟨g,rfl,Y,(yY.1 hg).1,fun i c hc j u hu=>?_,bY hg (by omega)⟩⟩
  have O:j < sz:=by rw [← hf c]; exact (yG.1 hu).1
  have E:=flat_get hf l i j c hc O
  have xI:i * sz + j < l.length * sz:=by
   have:=Nat.mul_le_mul_right sz (show i + 1 ≤ l.length from (yG.1 hc).1)
   rw [Nat.add_mul] at this; omega
  rw [← kT,List.getElem?_take,if_pos xI] at E
  rw [cell_of_row w g _ xF e (0,0) hg,Nat.zero_add]
  simpa using E.trans hu
end
structure Cm where
 k:Int
 s:Int
 t:Int
 l:Int
 q:Int
 i:Int
 p:Nat
 g:ByteArray
def Cm.vs (c:Cm):List Value:=(yx c.k c.s c.t c.l c.q c.i c.p c.g)
theorem Cm.len (c:Cm):c.vs.length = 8:=rfl
theorem cm_cells {w:World} {b o:Nat} {c:Cm} (h:w.rangeAt b o c.vs) :
  w.cell? (U b o) = some (I c.k)∧w.cell? (U b (o + 1)) = some (I c.s)∧w.cell? (U b (o + 2)) = some (I c.t)∧w.cell? (U b (o + 3)) = some (I c.l) ∧
  w.cell? (U b (o + 4)) = some (I c.q)∧w.cell? (U b (o + 5)) = some (I c.i)∧w.cell? (U b (o + 6)) = some (yj c.p)∧w.cell? (U b (o + 7)) = some (yk c.g) :=
 ⟨h 0 _ rfl,h 1 _ rfl,h 2 _ rfl,h 3 _ rfl,h 4 _ rfl,h 5 _ rfl,h 6 _ rfl,h 7 _ rfl⟩
theorem zG {w:World} {b o n:Nat} (h:w.there b o n) (j:Nat) (O:j < n):∃ v,w.cell? (U b (o + j)) = some v∧w.frozen? (U b (o + j)) = false:=by
 obtain ⟨v,hv⟩:=Option.isSome_iff_exists.1 (h j O).1
 exact ⟨v,hv,(h j O).2⟩
theorem sfl (a:Addr) (x:Nat) (m:Mode) (w:World):(store a (yj x) m).run Tryz.prog w = stored Tryz.prog w a (yj x) m:=run_store _ w a _ m rfl
end Go.Proofs.YtnphbkgfjanmgaaGreatDoor
