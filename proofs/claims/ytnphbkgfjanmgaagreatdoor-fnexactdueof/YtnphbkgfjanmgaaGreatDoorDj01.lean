/-
  Small facts that all walks of this seat lean on: facts kept from the walk, an ending's value, a text's bytes as a list.
-/
import Derived.Test.YtnphbkgfjanmgaaGreatDoorRows
import Derived.WalkKit
import Derived.Below
import Derived.OpenShut
import Derived.Deep.QuietTactic
import Derived.BigQuiet
import Derived.WalkSmall
import Derived.WalkSpells
import Derived.WalkLawsBesides
import Derived.Laws.Externs
import GoSem.Core.Float
import Derived.Handy
import Derived.Deep.MidRow
set_option linter.unusedVariables false
set_option maxHeartbeats 6400000
set_option maxRecDepth 100000
namespace Go.Proofs.YtnphbkgfjanmgaaGreatDoor
open Go.RowKit
theorem hide {p:Prop} (h:p):Hid p:=h
theorem U {p:Prop} (h:Hid p):p:=h
theorem zp {a b:Bool} (h:a = b):Ending.returned (.bool a) = .returned (.bool b):=by rw [h]
theorem zA {k:IntKind} {a b:Int} (h:a = b):Ending.returned (.int k a) = .returned (.int k b):=by rw [h]
theorem get_nat (s:ByteArray) (k:Nat) (h:k < s.size):s[k] = s.data.toList[k]'(by simpa using h):=rfl
theorem data_len (s:ByteArray):s.data.toList.length = s.size:=by simp
abbrev I (n : Int) : Value := .int .i64 n
abbrev Q (b o : Nat) : Addr := ⟨b, o, none⟩
abbrev J (b o : Nat) : Value := .pointer (some ⟨b, o, none⟩)
theorem yb {n : Nat} : n ≤ n := Nat.le_refl n
theorem yc {cs : Type} {a b : cs} (h : some a = some b) : a = b := Option.some.inj h
theorem H {p : Prop} (h : p) : Hid p := h
theorem yi {o : Option Value} {v : Value} (h : o = some v) : ∀ u, o = some u → v = u := fun u hu => Option.some.inj (h.symm.trans hu)
theorem yj {o : Option (Option Value)} {v : Value} (h : o = some (some v)) : ∀ u, o = some (some u) → v = u := fun u hu => Option.some.inj (Option.some.inj (h.symm.trans hu))
abbrev yk (n : Nat) : Value := .float .f64 n
abbrev yl (b : ByteArray) : Value := .string b
abbrev M : Value := undef
abbrev L (a : Array Value) (t : TypeId) : Obj := Obj.cells a t
theorem fD {P : Program} {ya : Exit → Act → World → Prop} {a : Act} {w : World} {x y : Code} (h : ∀ zb : Act → World → Prop, Hid (∀ a w, y.wp P ya a w → zb a w) → x.wp P (Exit.then zb ya) a w) : (Code.seq x y).wp P ya a w := wp_seq_k h
theorem fw (w : World) (o : Obj) : Below w.heap.size w (w.alloc o) := (Below.refl _ _).alloc (Nat.le_refl _) _
theorem fC {w w1 w2 : World} (h : Below w.heap.size w w1) (E : Below w1.heap.size w1 w2) : Below w.heap.size w w2 := h.trans (E.mono h.size)
abbrev yw (a b c d e f g : Int) (p : Nat) (s : ByteArray) (h i j k l : Int) : List Value := [.int .i64 a, .int .i64 b, .int .i64 c, .int .i64 d, .int .i64 e, .int .i64 f, .int .i64 g, .float .f64 p, .string s, .int .i64 h, .int .i64 i, .int .i64 j, .int .i64 k, .int .i64 l]
abbrev yx (a b c d e : Int) (s : ByteArray) : List Value := [.int .i64 a, .int .i64 b, .int .i64 c, .int .i64 d, .int .i64 e, .string s]
abbrev yy (a b c d e f : Int) (p : Nat) (s : ByteArray) : List Value := [.int .i64 a, .int .i64 b, .int .i64 c, .int .i64 d, .int .i64 e, .int .i64 f, .float .f64 p, .string s]
abbrev yn (v : Value) : Ending := .returned v
abbrev yp (w w1 : World) : Prop := Below w.heap.size w w1
abbrev yq (w : World) (o : Nat) : Value := .pointer (some ⟨w.heap.size, o, none⟩)
abbrev yr (w : World) (o : Nat) : Addr := ⟨w.heap.size, o, none⟩
theorem yC {W : World} {b : Nat} {v0 v1 v2 v3 v4 : Value} (h : W.rangeAt b 0 [v0, v1, v2, v3, v4]) : W.cell? ⟨b, 0, none⟩ = some v0 ∧ W.cell? ⟨b, 1, none⟩ = some v1 ∧ W.cell? ⟨b, 2, none⟩ = some v2 ∧ W.cell? ⟨b, 3, none⟩ = some v3 ∧ W.cell? ⟨b, 4, none⟩ = some v4 := ⟨h 0 _ rfl, h 1 _ rfl, h 2 _ rfl, h 3 _ rfl, h 4 _ rfl⟩
theorem yD {W : World} {b : Nat} {v0 v1 v2 v3 v4 v5 : Value} (h : W.rangeAt b 0 [v0, v1, v2, v3, v4, v5]) : W.cell? ⟨b, 0, none⟩ = some v0 ∧ W.cell? ⟨b, 1, none⟩ = some v1 ∧ W.cell? ⟨b, 2, none⟩ = some v2 ∧ W.cell? ⟨b, 3, none⟩ = some v3 ∧ W.cell? ⟨b, 4, none⟩ = some v4 ∧ W.cell? ⟨b, 5, none⟩ = some v5 := ⟨h 0 _ rfl, h 1 _ rfl, h 2 _ rfl, h 3 _ rfl, h 4 _ rfl, h 5 _ rfl⟩
theorem yE {W : World} {b : Nat} {v0 v1 v2 v3 v4 v5 v6 v7 : Value} (h : W.rangeAt b 0 [v0, v1, v2, v3, v4, v5, v6, v7]) : W.cell? ⟨b, 0, none⟩ = some v0 ∧ W.cell? ⟨b, 1, none⟩ = some v1 ∧ W.cell? ⟨b, 2, none⟩ = some v2 ∧ W.cell? ⟨b, 3, none⟩ = some v3 ∧ W.cell? ⟨b, 4, none⟩ = some v4 ∧ W.cell? ⟨b, 5, none⟩ = some v5 ∧ W.cell? ⟨b, 6, none⟩ = some v6 ∧ W.cell? ⟨b, 7, none⟩ = some v7 := ⟨h 0 _ rfl, h 1 _ rfl, h 2 _ rfl, h 3 _ rfl, h 4 _ rfl, h 5 _ rfl, h 6 _ rfl, h 7 _ rfl⟩
theorem yF {W : World} {b : Nat} {v0 v1 v2 v3 v4 v5 v6 v7 v8 : Value} (h : W.rangeAt b 0 [v0, v1, v2, v3, v4, v5, v6, v7, v8]) : W.cell? ⟨b, 0, none⟩ = some v0 ∧ W.cell? ⟨b, 1, none⟩ = some v1 ∧ W.cell? ⟨b, 2, none⟩ = some v2 ∧ W.cell? ⟨b, 3, none⟩ = some v3 ∧ W.cell? ⟨b, 4, none⟩ = some v4 ∧ W.cell? ⟨b, 5, none⟩ = some v5 ∧ W.cell? ⟨b, 6, none⟩ = some v6 ∧ W.cell? ⟨b, 7, none⟩ = some v7 ∧ W.cell? ⟨b, 8, none⟩ = some v8 := ⟨h 0 _ rfl, h 1 _ rfl, h 2 _ rfl, h 3 _ rfl, h 4 _ rfl, h 5 _ rfl, h 6 _ rfl, h 7 _ rfl, h 8 _ rfl⟩
theorem yG {W : World} {b : Nat} {v0 v1 v2 v3 v4 v5 v6 v7 v8 v9 v10 v11 v12 v13 : Value} (h : W.rangeAt b 0 [v0, v1, v2, v3, v4, v5, v6, v7, v8, v9, v10, v11, v12, v13]) : W.cell? ⟨b, 0, none⟩ = some v0 ∧ W.cell? ⟨b, 1, none⟩ = some v1 ∧ W.cell? ⟨b, 2, none⟩ = some v2 ∧ W.cell? ⟨b, 3, none⟩ = some v3 ∧ W.cell? ⟨b, 4, none⟩ = some v4 ∧ W.cell? ⟨b, 5, none⟩ = some v5 ∧ W.cell? ⟨b, 6, none⟩ = some v6 ∧ W.cell? ⟨b, 7, none⟩ = some v7 ∧ W.cell? ⟨b, 8, none⟩ = some v8 ∧ W.cell? ⟨b, 9, none⟩ = some v9 ∧ W.cell? ⟨b, 10, none⟩ = some v10 ∧ W.cell? ⟨b, 11, none⟩ = some v11 ∧ W.cell? ⟨b, 12, none⟩ = some v12 ∧ W.cell? ⟨b, 13, none⟩ = some v13 := ⟨h 0 _ rfl, h 1 _ rfl, h 2 _ rfl, h 3 _ rfl, h 4 _ rfl, h 5 _ rfl, h 6 _ rfl, h 7 _ rfl, h 8 _ rfl, h 9 _ rfl, h 10 _ rfl, h 11 _ rfl, h 12 _ rfl, h 13 _ rfl⟩
abbrev yH := @List.getElem?_eq_some_iff
abbrev yI := @List.getElem?_eq_getElem
abbrev yJ := @List.getElem?_replicate
abbrev yK := @Nat.lt_of_lt_of_le
abbrev yL := @World.block_lt_of_cell?
abbrev yM := @World.cell?_setCell_other
abbrev yN := @World.cell?_setCell_same
abbrev yO := @Nat.le_trans
abbrev yP := @List.mem_of_getElem?
abbrev yQ := @List.length_append
abbrev yR := @World.cell?_of_block
abbrev yS := @World.grownBy.refl
abbrev yT := @Below.heap_setCell
abbrev yU := @List.take_succ_cons
abbrev yV := @List.drop_succ_cons
abbrev yW := @World.cell?_alloc_lt
abbrev yX := @List.getElem?_set_ne
abbrev yY := @World.rangeAt_setCells_same
abbrev yZ := @Array.getElem?_eq_some_iff
abbrev xa := @List.take_of_length_le
abbrev xb := @List.drop_of_length_le
abbrev xc := @World.there_setCells
abbrev xd := @List.drop_eq_getElem_cons
abbrev xe := @beq_eq_false_iff_ne
abbrev xf := @Bool.and_eq_true
abbrev xg := @decide_eq_true_eq
theorem yf {fy : Array Edge} {x : List Bool} (h : ∀ e ∈ fy, Region.binds .any e = true → x[e.on]? = some true) (j : Nat) (hm : (fy.toList.any fun e => e.on == j && Region.binds .any e) = true) : x[j]? = some true := by
  obtain ⟨e, he, hp⟩ := List.any_eq_true.1 hm
  rw [Bool.and_eq_true] at hp
  have N : e.on = j := by simpa using hp.1
  have := h e (by simpa using he) hp.2
  rw [N] at this
  exact this
def Rd (w:World) (v:Value) (l:List Int):Prop :=
 ∃ (a:Option Addr) (cap:Nat),v = .slice a l.length cap∧l.length ≤ 1073741824 ∧
  (l ≠ []→∃ b off,a = some (Q b off)∧∀ i,i < l.length→w.cell? (Q b (off + i)) = some (.int .u8 (l.getD i 0)))
theorem bm {a b c:World} {row:Option Nat} (h:a.grownBy b row) (k:b.grownBy c row):a.grownBy c row :=
 ⟨k.os.trans h.os,k.tape.trans h.tape,k.output.trans h.output,yO h.size k.size,
  fun i hi xD=>(k.block i (yK hi h.size) xD).trans (h.block i hi xD)⟩
theorem gr_set (w:World) (a:Addr) (u:Value):w.grownBy (w.setCell a u) (some a.block) :=
 ⟨rfl,rfl,rfl,by simp [World.setCell],fun k _ xD=>yT _ _ _ _ (fun e=>xD (by rw [e]))⟩
theorem bS (w:World) (n:Nat) (row:Option Nat):w.grownBy (w.drewN n) row:=⟨rfl,rfl,rfl,Nat.le_refl _,fun _ _ _=>rfl⟩
theorem gr_below {w w':World} {g B:Nat} (h:w.grownBy w' (some g)) (hB:B ≤ g) (hs:B ≤ w.heap.size):Below B w w' :=
 ⟨h.os,h.tape,h.output,h.size,fun k hk=>h.block k (by omega) (by simp; omega)⟩
theorem bY {g a b:Nat} (h:a ≠ b):((Q g a):Addr) ≠ (Q g b):=by
 intro e; injection e; exact h (by assumption)
def Own (B:Nat) (w:World) (v:Value) (l:List Int):Prop :=
 ∃ g cap,v = .slice (some (Q g 0)) l.length cap∧B ≤ g∧g < w.heap.size∧l.length ≤ 1073741824 ∧
  (∀ i,i < l.length→w.cell? (Q g (0 + i)) = some (.int .u8 (l.getD i 0)))∧∀ i,i < l.length→w.frozen? (Q g (0 + i)) = false
theorem Tryz.infoByte:(Tryz.prog.info? 5).map (fun i=>(i.zero,i.size,i.bytes)) = some (some (.int .u8 0),1,1):=by kernel_rfl
def OwnT (B:Nat) (w:World) (v:Value) (l:List Int):Prop :=
 ∃ g cap xF t,v = .slice (some (Q g 0)) l.length cap∧B ≤ g∧w.heap[g]? = some (.cells xF t (0,0))∧l.length ≤ cap∧cap ≤ xF.size∧cap ≤ maxLen∧l.length ≤ 1073741824 ∧
  xF.toList.take l.length = l.map (Value.int .u8)
theorem cell_head {w:World} {g t:Nat} {xF:Array Value} {l:List Int} (hg:w.heap[g]? = some (.cells xF t (0,0))) (ht:xF.toList.take l.length = l.map (Value.int .u8)) {i:Nat} (hi:i < l.length) :
  w.cell? (Q g i) = some (.int .u8 (l.getD i 0)):=by
 rw [cell_of_row w g i xF t (0,0) hg]
 have N:(xF.toList.take l.length)[i]? = (l.map (Value.int .u8))[i]?:=by rw [ht]
 rw [List.getElem?_take,if_pos hi,List.getElem?_map,yI hi] at N
 simpa [hi] using N
theorem OwnT.own {B:Nat} {w:World} {v:Value} {l:List Int} (h:OwnT B w v l):Own B w v l:=by
 obtain ⟨g,cap,xF,t,rfl,E,hg,_,_,_,hl,ht⟩:=h
 exact ⟨g,cap,rfl,E,(yZ.1 hg).1,hl,fun i hi=>by rw [Nat.zero_add]; exact cell_head hg ht hi,fun i _=>by simp [World.frozen?,hg]⟩
theorem OwnT.ge {B:Nat} {w:World} {v:Value} {l:List Int} (h:OwnT B w v l):∀ k,v.ownBlock = some k→B ≤ k:=by
 obtain ⟨g,cap,xF,t,rfl,E,_⟩:=h
 intro k hk
 simp [Value.ownBlock] at hk
 omega
theorem ownT_row {B:Nat} {w:World} {v:Value} {l:List Int} (xD:0 < l.length) (xA:l.length ≤ 1073741824)
  (h:w.ownsRow B 5 1 v l.length (l.map (Value.int .u8))):OwnT B w v l:=by
 rcases h.2 with ⟨_,h0⟩ | ⟨g,cap,xF,rfl,E,hg,N,Y,hcur,kQ⟩
 ·omega
 ·exact ⟨g,cap,xF,_,rfl,E,hg,N,by omega,Y,xA,by simpa using kQ⟩
def Arr (ym B:Nat) (w wr:World) (done:List Int):Prop :=
 ∃ xF t,wr.heap[B]? = some (.cells xF t (0,0))∧xF.size = ym∧done.length ≤ ym∧xF.toList.take done.length = done.map (Value.int .u8)∧Below B w wr
theorem Arr.below {ym B:Nat} {w wr:World} {done:List Int} (h:Arr ym B w wr done):Below B w wr:=by
 obtain ⟨_,_,_,_,_,_,h⟩:=h; exact h
theorem Arr.lt {ym B:Nat} {w wr:World} {done:List Int} (h:Arr ym B w wr done):B < wr.heap.size:=by
 obtain ⟨_,_,h,_⟩:=h; exact (yZ.1 h).1
theorem Arr.some {ym B:Nat} {w wr:World} {done:List Int} (h:Arr ym B w wr done) {j:Nat} (V:j < ym):∃ v,wr.cell? (Q B j) = .some v:=by
 obtain ⟨xF,t,N,Y,_⟩:=h
 exact ⟨_,(cell_of_row wr B j xF t (0,0) N).trans (Array.getElem?_eq_getElem (by omega))⟩
theorem Arr.free {ym B:Nat} {w wr:World} {done:List Int} (h:Arr ym B w wr done) (j:Nat):wr.frozen? (Q B j) = false:=by
 obtain ⟨xF,t,N,_⟩:=h
 simp [World.frozen?,N]
theorem arr_start {ym:Nat} (w:World) (c:Array Value) (t:TypeId) (h:c.size = ym):Arr ym w.heap.size w (w.alloc (.cells c t)) [] :=
 ⟨c,t,heap_alloc_new w _,h,Nat.zero_le _,rfl,fw _ _⟩
theorem arr_step {ym B:Nat} {w wr:World} {done:List Int} (x:Int) (h:Arr ym B w wr done) (hM:done.length < ym):Arr ym B w (wr.setCell (Q B done.length) (.int .u8 x)) (done ++ [x]):=by
 obtain ⟨xF,t,N,Y,h3,h4,h5⟩:=h
 refine ⟨xF.setIfInBounds done.length (.int .u8 x),t,by simp [World.setCell,Array.getElem?_modify,N],by simpa using Y,by simp; omega,?_,h5.setCell yb _⟩
 rw [yQ,List.length_singleton,List.take_succ_eq_append_getElem (by simp; omega)]
 simp only [Array.toList_setIfInBounds,List.map_append,List.map_cons,List.map_nil]
 rw [List.take_set_of_le yb,h4]
 simp
theorem arr_own {ym B cap:Nat} {w wr:World} {l:List Int} (h:Arr ym B w wr l) (hc:cap = ym) (hM':ym ≤ 1073741824):OwnT B wr (.slice (some (Q B 0)) l.length cap) l:=by
 obtain ⟨xF,t,N,Y,h3,h4,_⟩:=h
 exact ⟨B,cap,xF,t,rfl,Nat.le_refl _,N,by omega,by omega,by unfold maxLen; omega,by omega,h4⟩
theorem own_rd {B:Nat} {w:World} {v:Value} {l:List Int} (h:Own B w v l):Rd w v l:=by
 obtain ⟨g,cap,rfl,_,_,hl,hc,_⟩:=h
 exact ⟨_,cap,rfl,hl,fun _=>⟨g,0,rfl,hc⟩⟩
theorem zV {B:Nat} {a w:World} (h:Below B a w) (n:Nat):Below B a (w.drewN n):=h.trans ⟨rfl,rfl,rfl,Nat.le_refl _,fun _ _=>rfl⟩
def Bts (l:List Int):Prop:=∀ x ∈ l,0 ≤ x∧x ≤ 255
theorem bts_get {l:List Int} (h:Bts l) (k:Nat):0 ≤ l.getD k 0∧l.getD k 0 ≤ 255:=by
 by_cases hk:k < l.length
 ·have e:l.getD k 0 = l[k]:=by simp [hk]
  rw [e]; exact h _ (List.getElem_mem hk)
 ·simp [Nat.le_of_not_lt hk]
theorem rd_below {B:Nat} {w w':World} {v:Value} {l:List Int} (h:Rd w v l) (E:Below B w w') (hB:w.heap.size ≤ B):Rd w' v l:=by
 obtain ⟨a,cap,rfl,hl,hc⟩:=h
 refine ⟨a,cap,rfl,hl,fun xD=>?_⟩
 obtain ⟨b,off,rfl,xt⟩:=hc xD
 exact ⟨b,off,rfl,fun i hi=>(E.cell (p:=(Q b (off + i))) (yK (yL w _ (xt i hi)) hB)).trans (xt i hi)⟩
theorem rd_len {w:World} {v:Value} {l:List Int} (h:Rd w v l):∃ a cap,v = .slice a l.length cap:=by
 obtain ⟨a,cap,rfl,_⟩:=h; exact ⟨a,cap,rfl⟩
theorem take_get (l:List Int) (k:Nat) (h:k < l.length):l.take (k + 1) = l.take k ++ [l.getD k 0]:=by
 rw [List.take_succ_eq_append_getElem h]; simp [h]
def nanB (x:Nat):Bool:=FloatKind.f64.format.order x x != some Ordering.eq
theorem fbits (x:Nat) (w:World):(callFunc 142 #[yk x]).run Tryz.prog w = .ok (.value (.int .u64 x)) w:=by
 rw [run_callFunc_extern (e:=Extern.MathFloatBits.float64bits) Tryz.func142 (by kernel_rfl) (by kernel_rfl) (by kernel_rfl) (by kernel_rfl)]
 rfl
theorem ek (x:Nat) (w:World) :
  Calls Tryz.prog 165 #[yk x] w fun e w'=>e = yn (.bool (nanB x))∧w' = w:=by
 go_enter Tryz.func165,Tryz.ntmps165
 go_wp2
 go_ret
 exact ⟨rfl,rfl⟩
def fbit (x:Nat):Nat:=if nanB x = true then 9221120237041090560 else x
theorem eS (x:Nat) (w:World) :
  Calls Tryz.prog 123 #[yk x] w fun e w'=>e = yn (.int .u64 (fbit x))∧w' = w:=by
 have E:=fbits
 cases h:nanB x
 case true =>
  have HX:Hid (fbit x = 9221120237041090560):=if_pos h
  go_enter Tryz.func123,Tryz.ntmps123
  go_wp2_with (go_at_call 165; refine (ek _ _).mono ?_; rintro e w' ⟨rfl,rfl⟩)
  go_ret
  exact ⟨by rw [U HX]; rfl,rfl⟩
 case false =>
  have HX:Hid (fbit x = x):=if_neg (by rw [h]; decide)
  go_enter Tryz.func123,Tryz.ntmps123
  go_wp2_with (go_at_call 165; refine (ek _ _).mono ?_; rintro e w' ⟨rfl,rfl⟩)
  go_ret
  exact ⟨by rw [U HX]; rfl,rfl⟩
end Go.Proofs.YtnphbkgfjanmgaaGreatDoor
namespace Go.Proofs.YtnphbkgfjanmgaaGreatDoor
open Go Ieee

theorem fb:double.fractionBits = 52:=rfl
theorem lp:double.leastPlace = -1074:=by decide
theorem bin:double.binade = 4503599627370496:=by decide
theorem inf:double.infRung = 9218868437227405312:=by decide
theorem sw:double.signWeight = 9223372036854775808:=by decide
theorem read_mag {x:Nat} {s:Bool} {m:Nat} {i:Int} (h:double.read x = .number s m i):m < 9007199254740992:=by
 unfold Format.read at h
 simp only [bin,inf,sw] at h
 split at h
 ·simp only [Datum.number.injEq] at h; omega
 ·split at h
  ·simp only [Datum.number.injEq] at h; omega
  ·split at h <;> cases h
theorem read_zero:double.read 0 = .number false 0 (-1074):=by decide
theorem read_top:double.read 4687829947429945344 = .number false 8589934592000000 (-35):=by decide
theorem read_four:double.read 4616189618054758400 = .number false 4503599627370496 (-50):=by decide
theorem signed_neg (m a:Nat):signed true m a ≤ 0:=by
 show -((m <<< a:Nat):Int) ≤ 0
 exact Int.neg_nonpos_of_nonneg (Int.natCast_nonneg _)
theorem above_zero {x:Nat} (h:double.order x 0 = some .gt):double.read x = .infinity false ∨ ∃ m i,double.read x = .number false m i∧m ≠ 0:=by
 unfold Format.order at h
 rw [read_zero] at h
 cases hx:double.read x with
 | nan s f=>rw [hx] at h; simp [Datum.order] at h
 | infinity s=>cases s with
  | false=>exact .inl rfl
  | true=>rw [hx] at h; simp [Datum.order] at h
 | number s m i =>
  rw [hx] at h
  simp only [Datum.order,Option.some.injEq] at h
  have hz:∀ b,signed false 0 b = 0:=fun b=>by simp [signed]
  rw [hz] at h
  have hgt:=Std.compare_eq_gt.1 h
  cases s with
  | false =>
   refine .inr ⟨m,i,rfl,fun e=>?_⟩
   subst e
   rw [hz] at hgt
   exact absurd hgt (by decide)
  | true =>
   exact absurd hgt (Int.not_lt.2 (signed_neg m _))
theorem log_le {m k:Nat} (hm:m ≠ 0) (h:m < 2 ^ k):m.log2 < k:=(Nat.log2_lt hm).2 h
theorem within {m:Nat} {i:Int} {x:Nat} (hx:double.read x = .number false m i) (hm:m ≠ 0) (h:double.order x 4687829947429945344 = some .lt ∨ double.order x 4687829947429945344 = some .eq):i + m.log2 ≤ 17:=by
 have hmag:=read_mag hx
 unfold Format.order at h
 rw [read_top,hx] at h
 simp only [Datum.order,Option.some.injEq] at h
 have qj:signed false m (i - min i (-35)).toNat ≤ signed false 8589934592000000 (-35 - min i (-35)).toNat:=by
  rcases h with h | h
  ·exact Int.le_of_lt (Std.compare_eq_lt.1 h)
  ·exact Int.le_of_eq (Std.LawfulEqCmp.eq_of_compare h)
 by_cases hi:i < -35
 ·have:=log_le hm (show m < 2 ^ 53 by omega)
  omega
 ·have e1:min i (-35) = -35:=by omega
  rw [e1] at qj
  have e2:((-35:Int) - -35).toNat = 0:=by decide
  rw [e2] at qj
  have hle':(m <<< (i - -35).toNat:Nat) ≤ (8589934592000000 <<< 0:Nat):=by
   have:((m <<< (i - -35).toNat:Nat):Int) ≤ ((8589934592000000 <<< 0:Nat):Int):=qj
   omega
  rw [Nat.shiftLeft_eq,Nat.shiftLeft_zero] at hle'
  have hlog:m.log2 + (i - -35).toNat < 53:=by
   have N:2 ^ m.log2 ≤ m:=Nat.log2_self_le hm
   have Y:2 ^ (m.log2 + (i - -35).toNat) ≤ m * 2 ^ (i - -35).toNat:=by
    rw [Nat.pow_add]; exact Nat.mul_le_mul_right _ N
   have h3:2 ^ (m.log2 + (i - -35).toNat) < 2 ^ 53:=by omega
   exact (Nat.pow_lt_pow_iff_right (by decide)).1 h3
  omega
theorem log_up {m:Nat} (hm:m ≠ 0):(m * 4503599627370496).log2 = m.log2 + 52:=by
 have h:=(Nat.log2_eq_iff hm).1 rfl
 refine (Nat.log2_eq_iff (by omega)).2 ?_
 rw [Nat.pow_add,show m.log2 + 52 + 1 = (m.log2 + 1) + 52 by omega,Nat.pow_add 2 (m.log2 + 1) 52,show (2:Nat) ^ 52 = 4503599627370496 from rfl]
 exact ⟨Nat.mul_le_mul_right _ h.1,Nat.mul_lt_mul_of_pos_right h.2 (by decide)⟩
theorem cut_le (n p drop:Nat) (hn:n < 2 ^ (p + 53)) (hp:p ≤ drop) (hl:p ≤ n.log2 + 2):Toward.even.cut false n drop ≤ 9007199254740993:=by
 unfold Toward.cut
 simp only
 have hg:2 ^ p ≤ 1 <<< min drop (n.log2 + 2):=by
  rw [Nat.one_shiftLeft]
  exact Nat.pow_le_pow_right (by decide) (by omega)
 have hq:n / (1 <<< min drop (n.log2 + 2)) ≤ 9007199254740992:=by
  refine yO (Nat.div_le_div_left hg (Nat.two_pow_pos p)) ?_
  have:n / 2 ^ p < 2 ^ 53:=by
   rw [Nat.div_lt_iff_lt_mul (Nat.two_pow_pos p),← Nat.pow_add,Nat.add_comm]
   exact hn
  omega
 have E:∀ b:Bool,b.toNat ≤ 1:=by decide
 have:=E (decide (1 <<< min drop (n.log2 + 2) < 2 * (n % 1 <<< min drop (n.log2 + 2))) || (1 <<< min drop (n.log2 + 2) == 2 * (n % 1 <<< min drop (n.log2 + 2)) && n / 1 <<< min drop (n.log2 + 2) % 2 == 1))
 omega
theorem near_le {m:Nat} {i:Int} (hm:m ≠ 0) (hi:i + m.log2 ≤ 17):double.nearest false (m * 4503599627370496) (i + -50) < 1075 * 4503599627370496:=by
 have hmag:¬ m * 4503599627370496 = 0:=by omega
 have hlog:=log_up hm
 have xJ:m * 4503599627370496 < 2 ^ (m.log2 + 53):=by
  have h:=((Nat.log2_eq_iff hm).1 rfl).2
  rw [show m.log2 + 53 = (m.log2 + 1) + 52 by omega,Nat.pow_add 2 (m.log2 + 1) 52,show (2:Nat) ^ 52 = 4503599627370496 from rfl]
  exact Nat.mul_lt_mul_of_pos_right h (by decide)
 unfold Format.nearest
 rw [if_neg hmag]
 simp only [hlog,fb,lp,bin,inf,Format.word,Bool.false_eq_true,if_false]
 have hlast:i + -50 + ((m.log2 + 52:Nat):Int) - (52:Nat) ≤ max (i + -50 + ((m.log2 + 52:Nat):Int) - (52:Nat)) (-1074):=Int.le_max_left _ _
 have hup:max (i + -50 + ((m.log2 + 52:Nat):Int) - (52:Nat)) (-1074) ≤ -33:=Int.max_le.2 ⟨by omega,by omega⟩
 generalize max (i + -50 + ((m.log2 + 52:Nat):Int) - (52:Nat)) (-1074) = last at *
 have e0:(i + -50 - last).toNat = 0:=by omega
 rw [e0,Nat.shiftLeft_zero]
 have hc:=cut_le (m * 4503599627370496) m.log2 (last - (i + -50)).toNat xJ (by omega) (by omega)
 generalize Toward.even.cut false (m * 4503599627370496) (last - (i + -50)).toNat = kept at *
 have e1:(last - -1074).toNat ≤ 1041:=by omega
 have e2:(last - -1074).toNat * 4503599627370496 ≤ 1041 * 4503599627370496:=Nat.mul_le_mul_right _ e1
 omega
theorem whole {r:Nat} (h:r < 1075 * 4503599627370496):∃ n:Nat,(double.read r).toInt .zero = some (n:Int)∧n < 9007199254740992:=by
 have hneg:(r / 9223372036854775808 % 2 == 1) = false:=by simp; omega
 have hr:r % 9223372036854775808 = r:=by omega
 have cutz:∀ (n d:Nat),Toward.zero.cut false n d ≤ n:=by
  intro n d
  unfold Toward.cut
  simp only [Bool.toNat_false,Nat.add_zero]
  exact Nat.div_le_self _ _
 unfold Format.read
 simp only [bin,inf,sw,hneg,hr,lp]
 split
 ·refine ⟨Toward.zero.cut false (r <<< (-1074:Int).toNat) (1074:Int).toNat,?_,?_⟩
  ·simp [Datum.toInt,Datum.integral,signed]
  ·have:=cutz (r <<< (-1074:Int).toNat) (1074:Int).toNat
   rw [show (-1074:Int).toNat = 0 from rfl,Nat.shiftLeft_zero] at this ⊢
   omega
 ·rw [if_pos (by omega)]
  have hi:(-1074 + ((r / 4503599627370496 - 1:Nat):Int)).toNat = 0:=by omega
  refine ⟨Toward.zero.cut false ((4503599627370496 + r % 4503599627370496) <<< (-1074 + ((r / 4503599627370496 - 1:Nat):Int)).toNat) (-(-1074 + ((r / 4503599627370496 - 1:Nat):Int))).toNat,?_,?_⟩
  ·simp [Datum.toInt,Datum.integral,signed]
  ·have:=cutz ((4503599627370496 + r % 4503599627370496) <<< (-1074 + ((r / 4503599627370496 - 1:Nat):Int)).toNat) (-(-1074 + ((r / 4503599627370496 - 1:Nat):Int))).toNat
   rw [hi,Nat.shiftLeft_zero] at this ⊢
   omega
theorem price_four {x:Nat} (h0:double.order x 0 = some .gt) (N:double.order x 4687829947429945344 = some .lt ∨ double.order x 4687829947429945344 = some .eq) :
  ∃ (r n:Nat),double.mul x 4616189618054758400 = some r∧(double.read r).toInt .zero = some (n:Int)∧n < 9007199254740992:=by
 rcases above_zero h0 with hx | ⟨m,i,hx,hm⟩
 ·exfalso
  unfold Format.order at N
  rw [hx,read_top] at N
  simp [Datum.order] at N
 ·have hw:=within hx hm N
  have jI:double.mul x 4616189618054758400 = some (double.nearest false (m * 4503599627370496) (i + -50)):=by
   unfold Format.mul
   rw [hx,read_four]
   rfl
  obtain ⟨n,Y,h3⟩:=whole (near_le hm hw)
  exact ⟨_,n,jI,Y,h3⟩
end Go.Proofs.YtnphbkgfjanmgaaGreatDoor
namespace Go.Proofs.YtnphbkgfjanmgaaGreatDoor
open Go.RowKit
def tkR (x:Nat):Nat:=(FloatKind.f64.format.mul x 4616189618054758400).getD 0
def tkN (x:Nat):Int:=((FloatKind.f64.decode (tkR x)).toInt .zero).getD 0
def tkOk (x:Nat):Bool:=(FloatKind.f64.format.order x 0 == some Ordering.gt) && ((FloatKind.f64.format.order x 4687829947429945344 == some Ordering.lt) || (FloatKind.f64.format.order x 4687829947429945344 == some Ordering.eq)) &&
 (FloatKind.f64.format.order (floatOfInt .f64 (tkN x)) (tkR x) == some Ordering.eq)
def tk (x:Nat):Int:=if tkOk x = true then tkN x else 0
theorem ep (x:Nat) (w:World) :
  Calls Tryz.prog 141 #[yk x] w fun e w'=>e = yn (.tuple #[I (tk x),.bool (tkOk x)])∧w' = w:=by
 by_cases h0:FloatKind.f64.format.order x 0 = some Ordering.gt
 ·by_cases N:FloatKind.f64.format.order x 4687829947429945344 = some Ordering.lt ∨ FloatKind.f64.format.order x 4687829947429945344 = some Ordering.eq
  ·obtain ⟨r,n,jI,pT,hn⟩:=price_four h0 N
   have hn':(n:Int) < 9007199254740992:=by omega
   have eR:tkR x = r:=by unfold tkR; rw [show FloatKind.f64.format.mul x 4616189618054758400 = some r from jI]; rfl
   have eN:tkN x = n:=by unfold tkN; rw [eR,show (FloatKind.f64.decode r).toInt .zero = some (n:Int) from pT]; rfl
   have b0:(FloatKind.f64.format.order x 0 == some Ordering.gt) = true:=by rw [h0]; rfl
   have hm:∀ W,(binOp .mul 42 (yk x) (yk 4616189618054758400)).run Tryz.prog W = .ok (yk r) W:=fun W=>by
    have:FloatKind.f64.format.mul x 4616189618054758400 = some r:=jI
    simp [binOp,Op.floatArith,this]
   have hc:∀ W,(convert 42 3 (yk r)).run Tryz.prog W = .ok (I n) W:=fun W=>by
    have Y:(FloatKind.f64.decode r).toInt .zero = some (n:Int):=pT
    have E:IntKind.i64.min ≤ (n:Int)∧(n:Int) ≤ IntKind.i64.max:=by
     rw [show IntKind.i64.min = -9223372036854775808 by decide,show IntKind.i64.max = 9223372036854775807 by decide]; omega
    simp [convert,run_underlying Tryz.underlying42,run_underlying Tryz.underlying3,Conv.floatToInt,Y,E.1]
    intro h
    omega
   have uK:((FloatKind.f64.format.order x 4687829947429945344 == some Ordering.lt) || (FloatKind.f64.format.order x 4687829947429945344 == some Ordering.eq)) = true:=by
    rcases N with N | N <;> rw [N] <;> rfl
   have vu:tkOk x = (FloatKind.f64.format.order (floatOfInt .f64 n) r == some Ordering.eq):=by unfold tkOk; rw [eN,eR,b0,uK]; rfl
   clear jI pT h0 uK
   cases he:(FloatKind.f64.format.order (floatOfInt .f64 n) r == some Ordering.eq)
   all_goals
    have he2:(FloatKind.f64.format.order (floatOfInt .f64 n) r != some Ordering.eq) = !(FloatKind.f64.format.order (floatOfInt .f64 n) r == some Ordering.eq):=rfl
    rw [he] at he2
    rw [he] at vu
   ·have HT:Hid (tk x = 0∧tkOk x = false):=⟨by unfold tk; rw [vu]; rfl,vu⟩
    clear vu eN eR
    rcases N with N | N
    ·have b1:(FloatKind.f64.format.order x 4687829947429945344 == some Ordering.lt) = true:=by rw [N]; rfl
     have b2:(FloatKind.f64.format.order x 4687829947429945344 == some Ordering.eq) = false:=by rw [N]; rfl
     clear N
     go_enter Tryz.func141,Tryz.ntmps141
     go_wp2
     go_ret2
     exact ⟨by rw [(U HT).1,(U HT).2]; rfl,rfl⟩
    ·have b1:(FloatKind.f64.format.order x 4687829947429945344 == some Ordering.lt) = false:=by rw [N]; rfl
     have b2:(FloatKind.f64.format.order x 4687829947429945344 == some Ordering.eq) = true:=by rw [N]; rfl
     clear N
     go_enter Tryz.func141,Tryz.ntmps141
     go_wp2
     go_ret2
     exact ⟨by rw [(U HT).1,(U HT).2]; rfl,rfl⟩
   ·have HT:Hid (tk x = n∧tkOk x = true):=⟨by unfold tk; rw [vu,eN]; rfl,vu⟩
    clear vu eN eR
    rcases N with N | N
    ·have b1:(FloatKind.f64.format.order x 4687829947429945344 == some Ordering.lt) = true:=by rw [N]; rfl
     have b2:(FloatKind.f64.format.order x 4687829947429945344 == some Ordering.eq) = false:=by rw [N]; rfl
     clear N
     go_enter Tryz.func141,Tryz.ntmps141
     go_wp2
     go_ret2
     exact ⟨by rw [(U HT).1,(U HT).2]; rfl,rfl⟩
    ·have b1:(FloatKind.f64.format.order x 4687829947429945344 == some Ordering.lt) = false:=by rw [N]; rfl
     have b2:(FloatKind.f64.format.order x 4687829947429945344 == some Ordering.eq) = true:=by rw [N]; rfl
     clear N
     go_enter Tryz.func141,Tryz.ntmps141
     go_wp2
     go_ret2
     exact ⟨by rw [(U HT).1,(U HT).2]; rfl,rfl⟩
  ·have b0:(FloatKind.f64.format.order x 0 == some Ordering.gt) = true:=by rw [h0]; rfl
   have b1:(FloatKind.f64.format.order x 4687829947429945344 == some Ordering.lt) = false:=by rw [xe]; exact fun h=>N (.inl h)
   have b2:(FloatKind.f64.format.order x 4687829947429945344 == some Ordering.eq) = false:=by rw [xe]; exact fun h=>N (.inr h)
   have vu:tkOk x = false:=by unfold tkOk; rw [b0,b1,b2]; rfl
   have HT:Hid (tk x = 0∧tkOk x = false):=⟨by unfold tk; rw [vu]; rfl,vu⟩
   clear h0 N vu
   go_enter Tryz.func141,Tryz.ntmps141
   go_wp2
   go_ret2
   exact ⟨by rw [(U HT).1,(U HT).2]; rfl,rfl⟩
 ·have b0:(FloatKind.f64.format.order x 0 == some Ordering.gt) = false:=by rw [xe]; exact h0
  have vu:tkOk x = false:=by unfold tkOk; rw [b0]; rfl
  have HT:Hid (tk x = 0∧tkOk x = false):=⟨by unfold tk; rw [vu]; rfl,vu⟩
  clear h0 vu
  go_enter Tryz.func141,Tryz.ntmps141
  go_wp2
  go_ret2
  exact ⟨by rw [(U HT).1,(U HT).2]; rfl,rfl⟩
theorem zc {C:Nat} {w w':World} {b o:Nat} {A:List Value} (h:w.rangeAt b o A) (E:Below C w w') (hC:b < C):w'.rangeAt b o A :=
 fun j v hv=>(E.cell (p:=(Q b (o + j))) hC).trans (h j v hv)
theorem zo {C:Nat} {w w':World} {b o n:Nat} (h:w.there b o n) (E:Below C w w') (hC:b < C):w'.there b o n :=
 fun j V=>⟨by rw [E.cell (p:=(Q b (o + j))) hC]; exact (h j V).1,by rw [E.frozen (p:=(Q b (o + j))) hC]; exact (h j V).2⟩
theorem zx {G:Option Nat} {w w':World} {b o:Nat} {A:List Value} (h:w.rangeAt b o A) (hg:w.grownBy w' G) (E:b < w.heap.size) (xD:some b ≠ G):w'.rangeAt b o A :=
 fun j v hv=>(yR (a:=(Q b (o + j))) (hg.block b E xD)).trans (h j v hv)
theorem eA {G:Option Nat} {w w':World} {b o n:Nat} (h:w.there b o n) (hg:w.grownBy w' G) (E:b < w.heap.size) (xD:some b ≠ G):w'.there b o n :=
 fun j V=>⟨by rw [yR (a:=(Q b (o + j))) (hg.block b E xD)]; exact (h j V).1,by rw [World.frozen?_of_block (a:=(Q b (o + j))) (hg.block b E xD)]; exact (h j V).2⟩
theorem cD {w w':World} {B:Nat} {G:Option Nat} (h:Below B w w') (hB:w.heap.size ≤ B):w.grownBy w' G :=
 ⟨h.os,h.tape,h.output,h.size,fun k hk _=>h.block k (by omega)⟩
theorem dM {w w':World} {G:Option Nat} {B:Nat} (h:w.grownBy w' G) (hG:∀ g,G = some g→B ≤ g) (hs:B ≤ w.heap.size):Below B w w' :=
 ⟨h.os,h.tape,h.output,h.size,fun k hk=>h.block k (by omega) (fun e=>by have:=hG k e.symm; omega)⟩
section
variable {α:Type} (f:α→List Value) (sz:Nat)

def RdR (w:World) (v:Value) (l:List α):Prop :=
 ∃ (a:Option Addr) (cap:Nat),v = .slice a l.length cap∧l.length ≤ 1073741824 ∧
  (l ≠ []→∃ b off,a = some (Q b off)∧b < w.heap.size∧∀ i c,l[i]? = some c→w.rangeAt b (off + i * sz) (f c))
def OwnR (B:Nat) (w:World) (v:Value) (l:List α):Prop :=
 ∃ (a:Option Addr) (cap:Nat),v = .slice a l.length cap∧l.length ≤ 1073741824 ∧
  (l ≠ []→∃ g,a = some (Q g 0)∧B ≤ g∧g < w.heap.size∧(∀ i c,l[i]? = some c→w.rangeAt g (0 + i * sz) (f c))∧w.there g 0 (l.length * sz))
def FillR (n B:Nat) (w wr:World) (done:List α):Prop :=
 B < wr.heap.size∧done.length ≤ n∧(∀ i c,done[i]? = some c→wr.rangeAt B (0 + i * sz) (f c))∧wr.there B 0 (n * sz)∧Below B w wr
variable {f sz}

theorem dE {B:Nat} {w:World} {v:Value} {l:List α} (h:OwnR f sz B w v l):RdR f sz w v l:=by
 obtain ⟨a,cap,rfl,hl,h⟩:=h
 refine ⟨a,cap,rfl,hl,fun xD=>?_⟩
 obtain ⟨g,rfl,_,Y,h3,_⟩:=h xD
 exact ⟨g,0,rfl,Y,h3⟩
theorem zh {C:Nat} {w w':World} {v:Value} {l:List α} (h:RdR f sz w v l) (E:Below C w w') (hC:w.heap.size ≤ C):RdR f sz w' v l:=by
 obtain ⟨a,cap,rfl,hl,h⟩:=h
 refine ⟨a,cap,rfl,hl,fun xD=>?_⟩
 obtain ⟨b,off,rfl,N,Y⟩:=h xD
 exact ⟨b,off,rfl,yK N E.size,fun i c hc=>zc (Y i c hc) E (yK N hC)⟩
theorem ownR_below {B C:Nat} {w w':World} {v:Value} {l:List α} (h:OwnR f sz B w v l) (E:Below C w w') (hC:w.heap.size ≤ C):OwnR f sz B w' v l:=by
 obtain ⟨a,cap,rfl,hl,h⟩:=h
 refine ⟨a,cap,rfl,hl,fun xD=>?_⟩
 obtain ⟨g,rfl,h0,N,Y,h3⟩:=h xD
 exact ⟨g,rfl,h0,yK N E.size,fun i c hc=>zc (Y i c hc) E (yK N hC),zo h3 E (yK N hC)⟩
theorem rdR_grown {G:Option Nat} {w w':World} {v:Value} {l:List α} (h:RdR f sz w v l) (hg:w.grownBy w' G) (hG:∀ g,G = some g→w.heap.size ≤ g):RdR f sz w' v l:=by
 obtain ⟨a,cap,rfl,hl,h⟩:=h
 refine ⟨a,cap,rfl,hl,fun xD=>?_⟩
 obtain ⟨b,off,rfl,N,Y⟩:=h xD
 exact ⟨b,off,rfl,yK N hg.size,fun i c hc=>zx (Y i c hc) hg N (fun e=>by have:=hG b e.symm; omega)⟩
theorem zi {B:Nat} {w:World} (b:Nat) (E:B ≤ b):∀ (vs:List Value) (o:Nat) (wr:World),Below B w wr→Below B w (wr.setCells b o vs)
 | [],_,_,h=>h
 | v :: r,o,wr,h=>by rw [World.setCells]; exact zi b E r (o + 1) _ (h.setCell (show B ≤ ((Q b o):Addr).block from E) v)
theorem cW (b:Nat):∀ (vs:List Value) (o:Nat) (wr:World),(wr.setCells b o vs).heap.size = wr.heap.size
 | [],_,_=>rfl
 | v :: r,o,wr=>by rw [World.setCells,cW b r (o + 1)]; simp [World.setCell]
theorem bR {w:World} {g n t:Nat} {xF:Array Value} (hg:w.heap[g]? = some (.cells xF t (0,0))) (hn:n ≤ xF.size):w.there g 0 n:=fun j V =>
 ⟨by rw [cell_of_row w g (0 + j) xF t (0,0) hg,Array.getElem?_eq_getElem (by omega)]; rfl,by simp [World.frozen?,hg]⟩
theorem fill_made {w w':World} {n e:Nat} {xs:List Value} (h:w'.ownsRow w.heap.size e sz (.slice (some (yr w 0)) n n) n xs) (hg:w.grownBy w' none):FillR f sz n w.heap.size w w' []:=by
 rcases h.2 with ⟨h0,_⟩ | ⟨g,cap,xF,hv,_,hh,_,_,hcur,_⟩
 ·simp at h0
 ·simp only [Value.slice.injEq,Option.some.injEq,Addr.mk.injEq,and_true,true_and] at hv
  obtain ⟨rfl,rfl⟩:=hv
  exact ⟨(yZ.1 hh).1,Nat.zero_le _,by simp,bR hh (by omega),(Below.refl _ w).grown hg yb (fun k hk=>by simp at hk)⟩
theorem fill_below {n B C:Nat} {w wr wr':World} {done:List α} (h:FillR f sz n B w wr done) (E:Below C wr wr') (hC:wr.heap.size ≤ C):FillR f sz n B w wr' done:=by
 obtain ⟨N,Y,h3,h4,h5⟩:=h
 exact ⟨yK N E.size,Y,fun i c hc=>zc (h3 i c hc) E (by omega),zo h4 E (by omega),h5.trans (E.mono (by omega))⟩
theorem fill_step {n B:Nat} {w wr:World} {done:List α} (x:α) (h:FillR f sz n B w wr done) (hn:done.length < n) (hf:∀ c,(f c).length = sz):FillR f sz n B w (wr.setCells B (done.length * sz) (f x)) (done ++ [x]):=by
 obtain ⟨N,Y,h3,h4,h5⟩:=h
 have qj:done.length * sz + sz ≤ n * sz:=by
  have:=Nat.mul_le_mul_right sz (show done.length + 1 ≤ n by omega)
  rw [Nat.add_mul] at this; omega
 refine ⟨by rw [cW]; exact N,by simp; omega,fun i c hc=>?_,xc h4 _ _ _,zi B yb _ _ _ h5⟩
 by_cases hi:i < done.length
 ·rw [List.getElem?_append_left hi] at hc
  refine World.rangeAt_setCells_apart (h3 i c hc) _ _ _ (.inr (.inl ?_))
  rw [hf c]
  have:=Nat.mul_le_mul_right sz (show i + 1 ≤ done.length by omega)
  rw [Nat.add_mul] at this; omega
 ·have xA:i < (done ++ [x]).length:=(yH.1 hc).1
  have qa:i = done.length:=by simp at xA; omega
  subst qa
  simp only [List.getElem?_append_right yb,Nat.sub_self,List.getElem?_cons_zero,Option.some.injEq] at hc
  subst hc
  rw [Nat.zero_add]
  exact yY _ _ _ _ (fun j V=>by
   have:=h4 (done.length * sz + j) (by rw [hf] at V; omega)
   rw [Nat.zero_add] at this; exact this)
theorem fill_own {n B:Nat} {w wr:World} {l:List α} (h:FillR f sz n B w wr l) (hl:l.length = n) (hn:n ≤ 1073741824):OwnR f sz B wr (.slice (some (Q B 0)) n n) l:=by
 obtain ⟨N,Y,h3,h4,h5⟩:=h
 exact ⟨_,n,by rw [hl],by omega,fun _=>⟨B,rfl,Nat.le_refl _,N,h3,by rw [hl]; exact h4⟩⟩
theorem fill_there {n B i:Nat} {w wr:World} {done:List α} (h:FillR f sz n B w wr done) (hi:i < n):wr.there B (i * sz) sz:=fun j V=>by
 have qj:=Nat.mul_le_mul_right sz (show i + 1 ≤ n by omega)
 rw [Nat.add_mul] at qj
 have:=h.2.2.2.1 (i * sz + j) (by omega)
 rw [Nat.zero_add] at this; exact this
theorem flat_get (hf:∀ c,(f c).length = sz):∀ (l:List α) (i j:Nat) (c:α),l[i]? = some c→j < sz→(l.flatMap f)[i * sz + j]? = (f c)[j]?
 | [],_,_,_,h,_=>by simp at h
 | a :: l,0,j,c,h,V=>by
  simp at h; subst h
  rw [List.flatMap_cons,List.getElem?_append_left (by rw [hf]; omega)]; simp
 | a :: l,i + 1,j,c,h,V=>by
  simp at h
  rw [List.flatMap_cons,List.getElem?_append_right (by rw [hf,Nat.add_mul]; omega),hf,← flat_get hf l i j c h V]
  congr 1
  rw [Nat.add_mul]; omega
theorem zZ (hf:∀ c,(f c).length = sz):∀ (l:List α),(l.flatMap f).length = l.length * sz
 | []=>by simp
 | a :: l=>by rw [List.flatMap_cons,yQ,hf,zZ hf l,List.length_cons,Nat.add_mul]; omega
theorem ownR_row {B e:Nat} {w:World} {v:Value} {l:List α} (hf:∀ c,(f c).length = sz) (hl:l.length ≤ 1073741824) (h:w.ownsRow B e sz v l.length (l.flatMap f)):OwnR f sz B w v l:=by
 rcases h.2 with ⟨rfl,h0⟩ | ⟨g,cap,xF,rfl,E,hg,uq,_,hcur,kQ⟩
 ·exact ⟨none,0,by rw [h0],hl,fun xD=>absurd (List.length_eq_zero_iff.1 h0) xD⟩
 ·have qj:=Nat.mul_le_mul_right sz uq
  refine ⟨_,cap,rfl,hl,fun _=>⟨g,rfl,E,(yZ.1 hg).1,fun i c hc j u hu=>?_,bR hg (by omega)⟩⟩
  have V:j < sz:=by rw [← hf c]; exact (yH.1 hu).1
  have Y:=flat_get hf l i j c hc V
  have xJ:i * sz + j < l.length * sz:=by
   have:=Nat.mul_le_mul_right sz (show i + 1 ≤ l.length from (yH.1 hc).1)
   rw [Nat.add_mul] at this; omega
  rw [← kQ,List.getElem?_take,if_pos xJ] at Y
  rw [cell_of_row w g _ xF e (0,0) hg,Nat.zero_add]
  simpa using Y.trans hu
end
structure Cm where
 k:Int
 s:Int
 t:Int
 l:Int
 q:Int
 i:Int
 p:Nat
 g:ByteArray
def Cm.vs (c:Cm):List Value:=(yy c.k c.s c.t c.l c.q c.i c.p c.g)
theorem Cm.len (c:Cm):c.vs.length = 8:=rfl
theorem cm_cells {w:World} {b o:Nat} {c:Cm} (h:w.rangeAt b o c.vs) :
  w.cell? (Q b o) = some (I c.k)∧w.cell? (Q b (o + 1)) = some (I c.s)∧w.cell? (Q b (o + 2)) = some (I c.t)∧w.cell? (Q b (o + 3)) = some (I c.l) ∧
  w.cell? (Q b (o + 4)) = some (I c.q)∧w.cell? (Q b (o + 5)) = some (I c.i)∧w.cell? (Q b (o + 6)) = some (yk c.p)∧w.cell? (Q b (o + 7)) = some (yl c.g) :=
 ⟨h 0 _ rfl,h 1 _ rfl,h 2 _ rfl,h 3 _ rfl,h 4 _ rfl,h 5 _ rfl,h 6 _ rfl,h 7 _ rfl⟩
theorem zG {w:World} {b o n:Nat} (h:w.there b o n) (j:Nat) (V:j < n):∃ v,w.cell? (Q b (o + j)) = some v∧w.frozen? (Q b (o + j)) = false:=by
 obtain ⟨v,hv⟩:=Option.isSome_iff_exists.1 (h j V).1
 exact ⟨v,hv,(h j V).2⟩
theorem sfl (a:Addr) (x:Nat) (m:Mode) (w:World):(store a (yk x) m).run Tryz.prog w = stored Tryz.prog w a (yk x) m:=run_store _ w a _ m rfl
end Go.Proofs.YtnphbkgfjanmgaaGreatDoor
