/-
  Small facts that all walks of this seat lean on: facts kept from the walk, an ending's value, a text's bytes as a list.
-/
import Derived.Test.YtdliebbfcmdmaaaGreatRows
import Derived.WalkKit
import Derived.Below
import Derived.Deep.MidRow
import Derived.OpenShut
import Derived.Deep.QuietTactic
import Derived.BigQuiet
import Derived.WalkSmall
import Derived.WalkSpells
import Derived.WalkLawsBesides
import Derived.Laws.Externs
import GoSem.Core.Float
import Derived.Handy
set_option linter.unusedVariables false
set_option maxHeartbeats 6400000
set_option maxRecDepth 100000
namespace Go.Proofs.YtdliebbfcmdmaaaGreat
open Go.RowKit
theorem hide {p:Prop} (h:p):Hid p:=h
theorem U {p:Prop} (h:Hid p):p:=h
theorem zy {a b:Bool} (h:a = b):Ending.returned (.bool a) = .returned (.bool b):=by rw [h]
theorem zp {k:IntKind} {a b:Int} (h:a = b):Ending.returned (.int k a) = .returned (.int k b):=by rw [h]
theorem get_nat (s:ByteArray) (k:Nat) (h:k < s.size):s[k] = s.data.toList[k]'(by simpa using h):=rfl
theorem data_len (s:ByteArray):s.data.toList.length = s.size:=by simp
abbrev H (n : Int) : Value := .int .i64 n
abbrev J (b o : Nat) : Addr := ⟨b, o, none⟩
abbrev I (b o : Nat) : Value := .pointer (some ⟨b, o, none⟩)
theorem tg {n : Nat} : n ≤ n := Nat.le_refl n
theorem ya {xm : Type} {a b : xm} (h : some a = some b) : a = b := Option.some.inj h
theorem Y {p : Prop} (h : p) : Hid p := h
theorem yh {o : Option Value} {v : Value} (h : o = some v) : ∀ u, o = some u → v = u := fun u hu => Option.some.inj (h.symm.trans hu)
theorem yi {o : Option (Option Value)} {v : Value} (h : o = some (some v)) : ∀ u, o = some (some u) → v = u := fun u hu => Option.some.inj (Option.some.inj (h.symm.trans hu))
abbrev yj (n : Nat) : Value := .float .f64 n
abbrev yk (b : ByteArray) : Value := .string b
abbrev M : Value := undef
abbrev E (a : Array Value) (t : TypeId) : Obj := Obj.cells a t
theorem ei {P : Program} {h1 : Exit → Act → World → Prop} {a : Act} {w : World} {x y : Code} (h : ∀ hR : Act → World → Prop, Hid (∀ a w, y.wp P h1 a w → hR a w) → x.wp P (Exit.then hR h1) a w) : (Code.seq x y).wp P h1 a w := wp_seq_k h
theorem ed (w : World) (o : Obj) : Below w.heap.size w (w.alloc o) := (Below.refl _ _).alloc (Nat.le_refl _) _
theorem eh {w w1 w2 : World} (h : Below w.heap.size w w1) (L : Below w1.heap.size w1 w2) : Below w.heap.size w w2 := h.trans (L.mono h.size)
abbrev yu (a b c d e f g : Int) (p : Nat) (s : ByteArray) (h i j k l : Int) : List Value := [.int .i64 a, .int .i64 b, .int .i64 c, .int .i64 d, .int .i64 e, .int .i64 f, .int .i64 g, .float .f64 p, .string s, .int .i64 h, .int .i64 i, .int .i64 j, .int .i64 k, .int .i64 l]
abbrev yv (a b c d e : Int) (s : ByteArray) : List Value := [.int .i64 a, .int .i64 b, .int .i64 c, .int .i64 d, .int .i64 e, .string s]
abbrev yw (a b c d e f : Int) (p : Nat) (s : ByteArray) : List Value := [.int .i64 a, .int .i64 b, .int .i64 c, .int .i64 d, .int .i64 e, .int .i64 f, .float .f64 p, .string s]
abbrev ym (v : Value) : Ending := .returned v
abbrev yn (w w1 : World) : Prop := Below w.heap.size w w1
abbrev yp (w : World) (o : Nat) : Value := .pointer (some ⟨w.heap.size, o, none⟩)
abbrev yq (w : World) (o : Nat) : Addr := ⟨w.heap.size, o, none⟩
theorem yB {W : World} {b : Nat} {v0 v1 v2 v3 v4 : Value} (h : W.rangeAt b 0 [v0, v1, v2, v3, v4]) : W.cell? ⟨b, 0, none⟩ = some v0 ∧ W.cell? ⟨b, 1, none⟩ = some v1 ∧ W.cell? ⟨b, 2, none⟩ = some v2 ∧ W.cell? ⟨b, 3, none⟩ = some v3 ∧ W.cell? ⟨b, 4, none⟩ = some v4 := ⟨h 0 _ rfl, h 1 _ rfl, h 2 _ rfl, h 3 _ rfl, h 4 _ rfl⟩
theorem yC {W : World} {b : Nat} {v0 v1 v2 v3 v4 v5 : Value} (h : W.rangeAt b 0 [v0, v1, v2, v3, v4, v5]) : W.cell? ⟨b, 0, none⟩ = some v0 ∧ W.cell? ⟨b, 1, none⟩ = some v1 ∧ W.cell? ⟨b, 2, none⟩ = some v2 ∧ W.cell? ⟨b, 3, none⟩ = some v3 ∧ W.cell? ⟨b, 4, none⟩ = some v4 ∧ W.cell? ⟨b, 5, none⟩ = some v5 := ⟨h 0 _ rfl, h 1 _ rfl, h 2 _ rfl, h 3 _ rfl, h 4 _ rfl, h 5 _ rfl⟩
theorem yD {W : World} {b : Nat} {v0 v1 v2 v3 v4 v5 v6 v7 : Value} (h : W.rangeAt b 0 [v0, v1, v2, v3, v4, v5, v6, v7]) : W.cell? ⟨b, 0, none⟩ = some v0 ∧ W.cell? ⟨b, 1, none⟩ = some v1 ∧ W.cell? ⟨b, 2, none⟩ = some v2 ∧ W.cell? ⟨b, 3, none⟩ = some v3 ∧ W.cell? ⟨b, 4, none⟩ = some v4 ∧ W.cell? ⟨b, 5, none⟩ = some v5 ∧ W.cell? ⟨b, 6, none⟩ = some v6 ∧ W.cell? ⟨b, 7, none⟩ = some v7 := ⟨h 0 _ rfl, h 1 _ rfl, h 2 _ rfl, h 3 _ rfl, h 4 _ rfl, h 5 _ rfl, h 6 _ rfl, h 7 _ rfl⟩
theorem yE {W : World} {b : Nat} {v0 v1 v2 v3 v4 v5 v6 v7 v8 : Value} (h : W.rangeAt b 0 [v0, v1, v2, v3, v4, v5, v6, v7, v8]) : W.cell? ⟨b, 0, none⟩ = some v0 ∧ W.cell? ⟨b, 1, none⟩ = some v1 ∧ W.cell? ⟨b, 2, none⟩ = some v2 ∧ W.cell? ⟨b, 3, none⟩ = some v3 ∧ W.cell? ⟨b, 4, none⟩ = some v4 ∧ W.cell? ⟨b, 5, none⟩ = some v5 ∧ W.cell? ⟨b, 6, none⟩ = some v6 ∧ W.cell? ⟨b, 7, none⟩ = some v7 ∧ W.cell? ⟨b, 8, none⟩ = some v8 := ⟨h 0 _ rfl, h 1 _ rfl, h 2 _ rfl, h 3 _ rfl, h 4 _ rfl, h 5 _ rfl, h 6 _ rfl, h 7 _ rfl, h 8 _ rfl⟩
theorem yF {W : World} {b : Nat} {v0 v1 v2 v3 v4 v5 v6 v7 v8 v9 v10 v11 v12 v13 : Value} (h : W.rangeAt b 0 [v0, v1, v2, v3, v4, v5, v6, v7, v8, v9, v10, v11, v12, v13]) : W.cell? ⟨b, 0, none⟩ = some v0 ∧ W.cell? ⟨b, 1, none⟩ = some v1 ∧ W.cell? ⟨b, 2, none⟩ = some v2 ∧ W.cell? ⟨b, 3, none⟩ = some v3 ∧ W.cell? ⟨b, 4, none⟩ = some v4 ∧ W.cell? ⟨b, 5, none⟩ = some v5 ∧ W.cell? ⟨b, 6, none⟩ = some v6 ∧ W.cell? ⟨b, 7, none⟩ = some v7 ∧ W.cell? ⟨b, 8, none⟩ = some v8 ∧ W.cell? ⟨b, 9, none⟩ = some v9 ∧ W.cell? ⟨b, 10, none⟩ = some v10 ∧ W.cell? ⟨b, 11, none⟩ = some v11 ∧ W.cell? ⟨b, 12, none⟩ = some v12 ∧ W.cell? ⟨b, 13, none⟩ = some v13 := ⟨h 0 _ rfl, h 1 _ rfl, h 2 _ rfl, h 3 _ rfl, h 4 _ rfl, h 5 _ rfl, h 6 _ rfl, h 7 _ rfl, h 8 _ rfl, h 9 _ rfl, h 10 _ rfl, h 11 _ rfl, h 12 _ rfl, h 13 _ rfl⟩
abbrev yG := @List.getElem?_eq_some_iff
abbrev yH := @List.getElem?_eq_getElem
abbrev yI := @List.getElem?_replicate
abbrev yJ := @Nat.lt_of_lt_of_le
abbrev yK := @World.block_lt_of_cell?
abbrev yL := @World.cell?_setCell_other
abbrev yM := @World.cell?_setCell_same
abbrev yN := @Nat.le_trans
abbrev yO := @List.mem_of_getElem?
abbrev yP := @List.length_append
abbrev yQ := @World.cell?_of_block
abbrev yR := @World.grownBy.refl
abbrev yS := @Below.heap_setCell
abbrev yT := @List.take_succ_cons
abbrev yU := @List.drop_succ_cons
abbrev yV := @World.cell?_alloc_lt
abbrev yW := @List.getElem?_set_ne
abbrev yX := @World.rangeAt_setCells_same
abbrev yY := @Array.getElem?_eq_some_iff
abbrev yZ := @List.take_of_length_le
abbrev xa := @List.drop_of_length_le
abbrev xb := @World.there_setCells
abbrev xc := @List.drop_eq_getElem_cons
abbrev xd := @beq_eq_false_iff_ne
abbrev xe := @Bool.and_eq_true
abbrev xh := @decide_eq_true_eq
theorem ye {hb : Array Edge} {x : List Bool} (h : ∀ e ∈ hb, Region.binds .any e = true → x[e.on]? = some true) (j : Nat) (hm : (hb.toList.any fun e => e.on == j && Region.binds .any e) = true) : x[j]? = some true := by
  obtain ⟨e, he, hp⟩ := List.any_eq_true.1 hm
  rw [Bool.and_eq_true] at hp
  have Q : e.on = j := by simpa using hp.1
  have := h e (by simpa using he) hp.2
  rw [Q] at this
  exact this
def Rd (w:World) (v:Value) (l:List Int):Prop :=
 ∃ (a:Option Addr) (A:Nat),v = .slice a l.length A∧l.length ≤ 1073741824 ∧
  (l ≠ []→∃ b off,a = some (J b off)∧∀ i,i < l.length→w.cell? (J b (off + i)) = some (.int .u8 (l.getD i 0)))
theorem zL {a b c:World} {row:Option Nat} (h:a.grownBy b row) (k:b.grownBy c row):a.grownBy c row :=
 ⟨k.os.trans h.os,k.tape.trans h.tape,k.output.trans h.output,yN h.size k.size,
  fun i hi xB=>(k.block i (yJ hi h.size) xB).trans (h.block i hi xB)⟩
theorem gr_set (w:World) (a:Addr) (u:Value):w.grownBy (w.setCell a u) (some a.block) :=
 ⟨rfl,rfl,rfl,by simp [World.setCell],fun k _ xB=>yS _ _ _ _ (fun e=>xB (by rw [e]))⟩
theorem gr_drewN (w:World) (n:Nat) (row:Option Nat):w.grownBy (w.drewN n) row:=⟨rfl,rfl,rfl,Nat.le_refl _,fun _ _ _=>rfl⟩
theorem gr_below {w w':World} {g B:Nat} (h:w.grownBy w' (some g)) (hB:B ≤ g) (hs:B ≤ w.heap.size):Below B w w' :=
 ⟨h.os,h.tape,h.output,h.size,fun k hk=>h.block k (by omega) (by simp; omega)⟩
theorem zO {g a b:Nat} (h:a ≠ b):((J g a):Addr) ≠ (J g b):=by
 intro e; injection e; exact h (by assumption)
def Own (B:Nat) (w:World) (v:Value) (l:List Int):Prop :=
 ∃ g A,v = .slice (some (J g 0)) l.length A∧B ≤ g∧g < w.heap.size∧l.length ≤ 1073741824 ∧
  (∀ i,i < l.length→w.cell? (J g (0 + i)) = some (.int .u8 (l.getD i 0)))∧∀ i,i < l.length→w.frozen? (J g (0 + i)) = false
theorem Tryz.infoByte:(Tryz.prog.info? 5).map (fun i=>(i.zero,i.size,i.bytes)) = some (some (.int .u8 0),1,1):=by kernel_rfl
def OwnT (B:Nat) (w:World) (v:Value) (l:List Int):Prop :=
 ∃ g A xr t,v = .slice (some (J g 0)) l.length A∧B ≤ g∧w.heap[g]? = some (.cells xr t (0,0))∧l.length ≤ A∧A ≤ xr.size∧A ≤ maxLen∧l.length ≤ 1073741824 ∧
  xr.toList.take l.length = l.map (Value.int .u8)
theorem cell_head {w:World} {g t:Nat} {xr:Array Value} {l:List Int} (hg:w.heap[g]? = some (.cells xr t (0,0))) (ht:xr.toList.take l.length = l.map (Value.int .u8)) {i:Nat} (hi:i < l.length) :
  w.cell? (J g i) = some (.int .u8 (l.getD i 0)):=by
 rw [cell_of_row w g i xr t (0,0) hg]
 have Q:(xr.toList.take l.length)[i]? = (l.map (Value.int .u8))[i]?:=by rw [ht]
 rw [List.getElem?_take,if_pos hi,List.getElem?_map,yH hi] at Q
 simpa [hi] using Q
theorem OwnT.own {B:Nat} {w:World} {v:Value} {l:List Int} (h:OwnT B w v l):Own B w v l:=by
 obtain ⟨g,A,xr,t,rfl,L,hg,_,_,_,hl,ht⟩:=h
 exact ⟨g,A,rfl,L,(yY.1 hg).1,hl,fun i hi=>by rw [Nat.zero_add]; exact cell_head hg ht hi,fun i _=>by simp [World.frozen?,hg]⟩
theorem OwnT.ge {B:Nat} {w:World} {v:Value} {l:List Int} (h:OwnT B w v l):∀ k,v.ownBlock = some k→B ≤ k:=by
 obtain ⟨g,A,xr,t,rfl,L,_⟩:=h
 intro k hk
 simp [Value.ownBlock] at hk
 omega
def Arr (yl B:Nat) (w wr:World) (done:List Int):Prop :=
 ∃ xr t,wr.heap[B]? = some (.cells xr t (0,0))∧xr.size = yl∧done.length ≤ yl∧xr.toList.take done.length = done.map (Value.int .u8)∧Below B w wr
theorem Arr.below {yl B:Nat} {w wr:World} {done:List Int} (h:Arr yl B w wr done):Below B w wr:=by
 obtain ⟨_,_,_,_,_,_,h⟩:=h; exact h
theorem Arr.lt {yl B:Nat} {w wr:World} {done:List Int} (h:Arr yl B w wr done):B < wr.heap.size:=by
 obtain ⟨_,_,h,_⟩:=h; exact (yY.1 h).1
theorem Arr.some {yl B:Nat} {w wr:World} {done:List Int} (h:Arr yl B w wr done) {j:Nat} (R:j < yl):∃ v,wr.cell? (J B j) = .some v:=by
 obtain ⟨xr,t,Q,N,_⟩:=h
 exact ⟨_,(cell_of_row wr B j xr t (0,0) Q).trans (Array.getElem?_eq_getElem (by omega))⟩
theorem cH {B:Nat} {a w:World} (h:Below B a w) (n:Nat):Below B a (w.drewN n):=h.trans ⟨rfl,rfl,rfl,Nat.le_refl _,fun _ _=>rfl⟩
def Bts (l:List Int):Prop:=∀ x ∈ l,0 ≤ x∧x ≤ 255
theorem bts_get {l:List Int} (h:Bts l) (k:Nat):0 ≤ l.getD k 0∧l.getD k 0 ≤ 255:=by
 by_cases hk:k < l.length
 ·have e:l.getD k 0 = l[k]:=by simp [hk]
  rw [e]; exact h _ (List.getElem_mem hk)
 ·simp [Nat.le_of_not_lt hk]
theorem rd_of_row {w:World} {a:Option Addr} {len A:Nat} {zs:List Int}
  (h:(a = none∧len = 0∧A = 0∧zs = []) ∨ ∃ x,a = some x∧len ≤ A∧A ≤ maxLen∧zs.length = A∧(∀ i,i < zs.length→w.cell? (x.add i) = some (.int .u8 (zs.getD i 0)))∧∀ n ∈ zs,(Lit.int .u8 n).wf = true)
  (hl:len ≤ 1073741824):(zs.take len).length = len∧Rd w (.slice a len A) (zs.take len)∧Bts (zs.take len):=by
 rcases h with ⟨rfl,rfl,rfl,rfl⟩ | ⟨x,rfl,Q,_,hz,hc,hw⟩
 ·exact ⟨rfl,⟨none,0,rfl,by simp,fun h=>absurd rfl h⟩,fun x hx=>by simp at hx⟩
 ·have xD:(zs.take len).length = len:=by rw [List.length_take]; omega
  refine ⟨xD,⟨some x,A,by rw [xD],by omega,fun xB=>?_⟩,fun n hn=>bounds_u8 (hw n (List.mem_of_mem_take hn))⟩
  have hp:0 < len:=by
   rcases Nat.eq_zero_or_pos len with h0 | h0
   ·subst h0; simp at xB
   ·exact h0
  obtain ⟨b,off,spot⟩:=x
  have h0:=hc 0 (by omega)
  have hspot:spot = none:=by simpa [Addr.add] using World.cell?_spot h0
  subst hspot
  refine ⟨b,off,rfl,fun i hi=>?_⟩
  rw [xD] at hi
  have:=hc i (by omega)
  have e:((J b off):Addr).add i = (J b (off + i)):=by unfold Addr.add; split <;> simp_all
  rw [e] at this
  rw [this]
  have e2:(zs.take len).getD i 0 = zs.getD i 0:=by simp [hi]
  rw [e2]
def nanB (x:Nat):Bool:=FloatKind.f64.format.order x x != some Ordering.eq
theorem datum_self (d:Ieee.Datum) (h:¬ d.isNaN = true):d.order d = some Ordering.eq:=by
 cases d with
 | nan s f=>simp [Ieee.Datum.isNaN] at h
 | infinity s=>cases s <;> rfl
 | number s m i=>simp [Ieee.Datum.order,Std.ReflCmp.compare_self]
theorem fbits (x:Nat) (w:World):(callFunc 94 #[yj x]).run Tryz.prog w = .ok (.value (.int .u64 x)) w:=by
 rw [run_callFunc_extern (e:=Extern.MathFloatBits.float64bits) Tryz.func94 (by kernel_rfl) (by kernel_rfl) (by kernel_rfl) (by kernel_rfl)]
 rfl
theorem isNaN_any (x:Nat) (w:World) :
  Calls Tryz.prog 106 #[yj x] w fun e w'=>e = ym (.bool (nanB x))∧w' = w:=by
 go_enter Tryz.func106,Tryz.ntmps106
 go_wp2
 go_ret
 exact ⟨rfl,rfl⟩
def fbit (x:Nat):Nat:=if nanB x = true then 9221120237041090560 else x
theorem floatBits_any (x:Nat) (w:World) :
  Calls Tryz.prog 97 #[yj x] w fun e w'=>e = ym (.int .u64 (fbit x))∧w' = w:=by
 have L:=fbits
 cases h:nanB x
 case true =>
  have HX:Hid (fbit x = 9221120237041090560):=if_pos h
  go_enter Tryz.func97,Tryz.ntmps97
  go_wp2_with (go_at_call 106; refine (isNaN_any _ _).mono ?_; rintro e w' ⟨rfl,rfl⟩)
  go_ret
  exact ⟨by rw [U HX]; rfl,rfl⟩
 case false =>
  have HX:Hid (fbit x = x):=if_neg (by rw [h]; decide)
  go_enter Tryz.func97,Tryz.ntmps97
  go_wp2_with (go_at_call 106; refine (isNaN_any _ _).mono ?_; rintro e w' ⟨rfl,rfl⟩)
  go_ret
  exact ⟨by rw [U HX]; rfl,rfl⟩
end Go.Proofs.YtdliebbfcmdmaaaGreat
namespace Go.Proofs.YtdliebbfcmdmaaaGreat
open Go Ieee

theorem fb:double.fractionBits = 52:=rfl
theorem lp:double.leastPlace = -1074:=by decide
theorem bin:double.binade = 4503599627370496:=by decide
theorem inf:double.infRung = 9218868437227405312:=by decide
theorem sw:double.signWeight = 9223372036854775808:=by decide
theorem read_mag {x:Nat} {s:Bool} {m:Nat} {i:Int} (h:double.read x = .number s m i):m < 9007199254740992:=by
 unfold Format.read at h
 simp only [bin,inf,sw] at h
 split at h
 ·simp only [Datum.number.injEq] at h; omega
 ·split at h
  ·simp only [Datum.number.injEq] at h; omega
  ·split at h <;> cases h
theorem read_zero:double.read 0 = .number false 0 (-1074):=by decide
theorem read_top:double.read 4687829947429945344 = .number false 8589934592000000 (-35):=by decide
theorem read_four:double.read 4616189618054758400 = .number false 4503599627370496 (-50):=by decide
theorem signed_neg (m a:Nat):signed true m a ≤ 0:=by
 show -((m <<< a:Nat):Int) ≤ 0
 exact Int.neg_nonpos_of_nonneg (Int.natCast_nonneg _)
theorem above_zero {x:Nat} (h:double.order x 0 = some .gt):double.read x = .infinity false ∨ ∃ m i,double.read x = .number false m i∧m ≠ 0:=by
 unfold Format.order at h
 rw [read_zero] at h
 cases hx:double.read x with
 | nan s f=>rw [hx] at h; simp [Datum.order] at h
 | infinity s=>cases s with
  | false=>exact .inl rfl
  | true=>rw [hx] at h; simp [Datum.order] at h
 | number s m i =>
  rw [hx] at h
  simp only [Datum.order,Option.some.injEq] at h
  have hz:∀ b,signed false 0 b = 0:=fun b=>by simp [signed]
  rw [hz] at h
  have hgt:=Std.compare_eq_gt.1 h
  cases s with
  | false =>
   refine .inr ⟨m,i,rfl,fun e=>?_⟩
   subst e
   rw [hz] at hgt
   exact absurd hgt (by decide)
  | true =>
   exact absurd hgt (Int.not_lt.2 (signed_neg m _))
theorem log_le {m k:Nat} (hm:m ≠ 0) (h:m < 2 ^ k):m.log2 < k:=(Nat.log2_lt hm).2 h
theorem within {m:Nat} {i:Int} {x:Nat} (hx:double.read x = .number false m i) (hm:m ≠ 0) (h:double.order x 4687829947429945344 = some .lt ∨ double.order x 4687829947429945344 = some .eq):i + m.log2 ≤ 17:=by
 have hmag:=read_mag hx
 unfold Format.order at h
 rw [read_top,hx] at h
 simp only [Datum.order,Option.some.injEq] at h
 have kl:signed false m (i - min i (-35)).toNat ≤ signed false 8589934592000000 (-35 - min i (-35)).toNat:=by
  rcases h with h | h
  ·exact Int.le_of_lt (Std.compare_eq_lt.1 h)
  ·exact Int.le_of_eq (Std.LawfulEqCmp.eq_of_compare h)
 by_cases hi:i < -35
 ·have:=log_le hm (show m < 2 ^ 53 by omega)
  omega
 ·have e1:min i (-35) = -35:=by omega
  rw [e1] at kl
  have e2:((-35:Int) - -35).toNat = 0:=by decide
  rw [e2] at kl
  have hle':(m <<< (i - -35).toNat:Nat) ≤ (8589934592000000 <<< 0:Nat):=by
   have:((m <<< (i - -35).toNat:Nat):Int) ≤ ((8589934592000000 <<< 0:Nat):Int):=kl
   omega
  rw [Nat.shiftLeft_eq,Nat.shiftLeft_zero] at hle'
  have hlog:m.log2 + (i - -35).toNat < 53:=by
   have Q:2 ^ m.log2 ≤ m:=Nat.log2_self_le hm
   have N:2 ^ (m.log2 + (i - -35).toNat) ≤ m * 2 ^ (i - -35).toNat:=by
    rw [Nat.pow_add]; exact Nat.mul_le_mul_right _ Q
   have h3:2 ^ (m.log2 + (i - -35).toNat) < 2 ^ 53:=by omega
   exact (Nat.pow_lt_pow_iff_right (by decide)).1 h3
  omega
theorem log_up {m:Nat} (hm:m ≠ 0):(m * 4503599627370496).log2 = m.log2 + 52:=by
 have h:=(Nat.log2_eq_iff hm).1 rfl
 refine (Nat.log2_eq_iff (by omega)).2 ?_
 rw [Nat.pow_add,show m.log2 + 52 + 1 = (m.log2 + 1) + 52 by omega,Nat.pow_add 2 (m.log2 + 1) 52,show (2:Nat) ^ 52 = 4503599627370496 from rfl]
 exact ⟨Nat.mul_le_mul_right _ h.1,Nat.mul_lt_mul_of_pos_right h.2 (by decide)⟩
theorem cut_le (n p drop:Nat) (hn:n < 2 ^ (p + 53)) (hp:p ≤ drop) (hl:p ≤ n.log2 + 2):Toward.even.cut false n drop ≤ 9007199254740993:=by
 unfold Toward.cut
 simp only
 have hg:2 ^ p ≤ 1 <<< min drop (n.log2 + 2):=by
  rw [Nat.one_shiftLeft]
  exact Nat.pow_le_pow_right (by decide) (by omega)
 have hq:n / (1 <<< min drop (n.log2 + 2)) ≤ 9007199254740992:=by
  refine yN (Nat.div_le_div_left hg (Nat.two_pow_pos p)) ?_
  have:n / 2 ^ p < 2 ^ 53:=by
   rw [Nat.div_lt_iff_lt_mul (Nat.two_pow_pos p),← Nat.pow_add,Nat.add_comm]
   exact hn
  omega
 have L:∀ b:Bool,b.toNat ≤ 1:=by decide
 have:=L (decide (1 <<< min drop (n.log2 + 2) < 2 * (n % 1 <<< min drop (n.log2 + 2))) || (1 <<< min drop (n.log2 + 2) == 2 * (n % 1 <<< min drop (n.log2 + 2)) && n / 1 <<< min drop (n.log2 + 2) % 2 == 1))
 omega
theorem near_le {m:Nat} {i:Int} (hm:m ≠ 0) (hi:i + m.log2 ≤ 17):double.nearest false (m * 4503599627370496) (i + -50) < 1075 * 4503599627370496:=by
 have hmag:¬ m * 4503599627370496 = 0:=by omega
 have hlog:=log_up hm
 have xK:m * 4503599627370496 < 2 ^ (m.log2 + 53):=by
  have h:=((Nat.log2_eq_iff hm).1 rfl).2
  rw [show m.log2 + 53 = (m.log2 + 1) + 52 by omega,Nat.pow_add 2 (m.log2 + 1) 52,show (2:Nat) ^ 52 = 4503599627370496 from rfl]
  exact Nat.mul_lt_mul_of_pos_right h (by decide)
 unfold Format.nearest
 rw [if_neg hmag]
 simp only [hlog,fb,lp,bin,inf,Format.word,Bool.false_eq_true,if_false]
 have hlast:i + -50 + ((m.log2 + 52:Nat):Int) - (52:Nat) ≤ max (i + -50 + ((m.log2 + 52:Nat):Int) - (52:Nat)) (-1074):=Int.le_max_left _ _
 have hup:max (i + -50 + ((m.log2 + 52:Nat):Int) - (52:Nat)) (-1074) ≤ -33:=Int.max_le.2 ⟨by omega,by omega⟩
 generalize max (i + -50 + ((m.log2 + 52:Nat):Int) - (52:Nat)) (-1074) = last at *
 have e0:(i + -50 - last).toNat = 0:=by omega
 rw [e0,Nat.shiftLeft_zero]
 have hc:=cut_le (m * 4503599627370496) m.log2 (last - (i + -50)).toNat xK (by omega) (by omega)
 generalize Toward.even.cut false (m * 4503599627370496) (last - (i + -50)).toNat = kept at *
 have e1:(last - -1074).toNat ≤ 1041:=by omega
 have e2:(last - -1074).toNat * 4503599627370496 ≤ 1041 * 4503599627370496:=Nat.mul_le_mul_right _ e1
 omega
theorem whole {r:Nat} (h:r < 1075 * 4503599627370496):∃ n:Nat,(double.read r).toInt .zero = some (n:Int)∧n < 9007199254740992:=by
 have hneg:(r / 9223372036854775808 % 2 == 1) = false:=by simp; omega
 have hr:r % 9223372036854775808 = r:=by omega
 have cutz:∀ (n d:Nat),Toward.zero.cut false n d ≤ n:=by
  intro n d
  unfold Toward.cut
  simp only [Bool.toNat_false,Nat.add_zero]
  exact Nat.div_le_self _ _
 unfold Format.read
 simp only [bin,inf,sw,hneg,hr,lp]
 split
 ·refine ⟨Toward.zero.cut false (r <<< (-1074:Int).toNat) (1074:Int).toNat,?_,?_⟩
  ·simp [Datum.toInt,Datum.integral,signed]
  ·have:=cutz (r <<< (-1074:Int).toNat) (1074:Int).toNat
   rw [show (-1074:Int).toNat = 0 from rfl,Nat.shiftLeft_zero] at this ⊢
   omega
 ·rw [if_pos (by omega)]
  have hi:(-1074 + ((r / 4503599627370496 - 1:Nat):Int)).toNat = 0:=by omega
  refine ⟨Toward.zero.cut false ((4503599627370496 + r % 4503599627370496) <<< (-1074 + ((r / 4503599627370496 - 1:Nat):Int)).toNat) (-(-1074 + ((r / 4503599627370496 - 1:Nat):Int))).toNat,?_,?_⟩
  ·simp [Datum.toInt,Datum.integral,signed]
  ·have:=cutz ((4503599627370496 + r % 4503599627370496) <<< (-1074 + ((r / 4503599627370496 - 1:Nat):Int)).toNat) (-(-1074 + ((r / 4503599627370496 - 1:Nat):Int))).toNat
   rw [hi,Nat.shiftLeft_zero] at this ⊢
   omega
theorem price_four {x:Nat} (h0:double.order x 0 = some .gt) (Q:double.order x 4687829947429945344 = some .lt ∨ double.order x 4687829947429945344 = some .eq) :
  ∃ (r n:Nat),double.mul x 4616189618054758400 = some r∧(double.read r).toInt .zero = some (n:Int)∧n < 9007199254740992:=by
 rcases above_zero h0 with hx | ⟨m,i,hx,hm⟩
 ·exfalso
  unfold Format.order at Q
  rw [hx,read_top] at Q
  simp [Datum.order] at Q
 ·have hw:=within hx hm Q
  have jx:double.mul x 4616189618054758400 = some (double.nearest false (m * 4503599627370496) (i + -50)):=by
   unfold Format.mul
   rw [hx,read_four]
   rfl
  obtain ⟨n,N,h3⟩:=whole (near_le hm hw)
  exact ⟨_,n,jx,N,h3⟩
end Go.Proofs.YtdliebbfcmdmaaaGreat
namespace Go.Proofs.YtdliebbfcmdmaaaGreat
open Go.RowKit
def tkR (x:Nat):Nat:=(FloatKind.f64.format.mul x 4616189618054758400).getD 0
def tkN (x:Nat):Int:=((FloatKind.f64.decode (tkR x)).toInt .zero).getD 0
def tkOk (x:Nat):Bool:=(FloatKind.f64.format.order x 0 == some Ordering.gt) && ((FloatKind.f64.format.order x 4687829947429945344 == some Ordering.lt) || (FloatKind.f64.format.order x 4687829947429945344 == some Ordering.eq)) &&
 (FloatKind.f64.format.order (floatOfInt .f64 (tkN x)) (tkR x) == some Ordering.eq)
def tk (x:Nat):Int:=if tkOk x = true then tkN x else 0
theorem dG (x:Nat) (w:World) :
  Calls Tryz.prog 99 #[yj x] w fun e w'=>e = ym (.tuple #[H (tk x),.bool (tkOk x)])∧w' = w:=by
 by_cases h0:FloatKind.f64.format.order x 0 = some Ordering.gt
 ·by_cases Q:FloatKind.f64.format.order x 4687829947429945344 = some Ordering.lt ∨ FloatKind.f64.format.order x 4687829947429945344 = some Ordering.eq
  ·obtain ⟨r,n,jx,pE,hn⟩:=price_four h0 Q
   have hn':(n:Int) < 9007199254740992:=by omega
   have eR:tkR x = r:=by unfold tkR; rw [show FloatKind.f64.format.mul x 4616189618054758400 = some r from jx]; rfl
   have eN:tkN x = n:=by unfold tkN; rw [eR,show (FloatKind.f64.decode r).toInt .zero = some (n:Int) from pE]; rfl
   have b0:(FloatKind.f64.format.order x 0 == some Ordering.gt) = true:=by rw [h0]; rfl
   have hm:∀ W,(binOp .mul 25 (yj x) (yj 4616189618054758400)).run Tryz.prog W = .ok (yj r) W:=fun W=>by
    have:FloatKind.f64.format.mul x 4616189618054758400 = some r:=jx
    simp [binOp,Op.floatArith,this]
   have hc:∀ W,(convert 25 3 (yj r)).run Tryz.prog W = .ok (H n) W:=fun W=>by
    have N:(FloatKind.f64.decode r).toInt .zero = some (n:Int):=pE
    have L:IntKind.i64.min ≤ (n:Int)∧(n:Int) ≤ IntKind.i64.max:=by
     rw [show IntKind.i64.min = -9223372036854775808 by decide,show IntKind.i64.max = 9223372036854775807 by decide]; omega
    simp [convert,run_underlying Tryz.underlying25,run_underlying Tryz.underlying3,Conv.floatToInt,N,L.1]
    intro h
    omega
   have qy:((FloatKind.f64.format.order x 4687829947429945344 == some Ordering.lt) || (FloatKind.f64.format.order x 4687829947429945344 == some Ordering.eq)) = true:=by
    rcases Q with Q | Q <;> rw [Q] <;> rfl
   have vH:tkOk x = (FloatKind.f64.format.order (floatOfInt .f64 n) r == some Ordering.eq):=by unfold tkOk; rw [eN,eR,b0,qy]; rfl
   clear jx pE h0 qy
   cases he:(FloatKind.f64.format.order (floatOfInt .f64 n) r == some Ordering.eq)
   all_goals
    have he2:(FloatKind.f64.format.order (floatOfInt .f64 n) r != some Ordering.eq) = !(FloatKind.f64.format.order (floatOfInt .f64 n) r == some Ordering.eq):=rfl
    rw [he] at he2
    rw [he] at vH
   ·have HT:Hid (tk x = 0∧tkOk x = false):=⟨by unfold tk; rw [vH]; rfl,vH⟩
    clear vH eN eR
    rcases Q with Q | Q
    ·have b1:(FloatKind.f64.format.order x 4687829947429945344 == some Ordering.lt) = true:=by rw [Q]; rfl
     have b2:(FloatKind.f64.format.order x 4687829947429945344 == some Ordering.eq) = false:=by rw [Q]; rfl
     clear Q
     go_enter Tryz.func99,Tryz.ntmps99
     go_wp2
     go_ret2
     exact ⟨by rw [(U HT).1,(U HT).2]; rfl,rfl⟩
    ·have b1:(FloatKind.f64.format.order x 4687829947429945344 == some Ordering.lt) = false:=by rw [Q]; rfl
     have b2:(FloatKind.f64.format.order x 4687829947429945344 == some Ordering.eq) = true:=by rw [Q]; rfl
     clear Q
     go_enter Tryz.func99,Tryz.ntmps99
     go_wp2
     go_ret2
     exact ⟨by rw [(U HT).1,(U HT).2]; rfl,rfl⟩
   ·have HT:Hid (tk x = n∧tkOk x = true):=⟨by unfold tk; rw [vH,eN]; rfl,vH⟩
    clear vH eN eR
    rcases Q with Q | Q
    ·have b1:(FloatKind.f64.format.order x 4687829947429945344 == some Ordering.lt) = true:=by rw [Q]; rfl
     have b2:(FloatKind.f64.format.order x 4687829947429945344 == some Ordering.eq) = false:=by rw [Q]; rfl
     clear Q
     go_enter Tryz.func99,Tryz.ntmps99
     go_wp2
     go_ret2
     exact ⟨by rw [(U HT).1,(U HT).2]; rfl,rfl⟩
    ·have b1:(FloatKind.f64.format.order x 4687829947429945344 == some Ordering.lt) = false:=by rw [Q]; rfl
     have b2:(FloatKind.f64.format.order x 4687829947429945344 == some Ordering.eq) = true:=by rw [Q]; rfl
     clear Q
     go_enter Tryz.func99,Tryz.ntmps99
     go_wp2
     go_ret2
     exact ⟨by rw [(U HT).1,(U HT).2]; rfl,rfl⟩
  ·have b0:(FloatKind.f64.format.order x 0 == some Ordering.gt) = true:=by rw [h0]; rfl
   have b1:(FloatKind.f64.format.order x 4687829947429945344 == some Ordering.lt) = false:=by rw [xd]; exact fun h=>Q (.inl h)
   have b2:(FloatKind.f64.format.order x 4687829947429945344 == some Ordering.eq) = false:=by rw [xd]; exact fun h=>Q (.inr h)
   have vH:tkOk x = false:=by unfold tkOk; rw [b0,b1,b2]; rfl
   have HT:Hid (tk x = 0∧tkOk x = false):=⟨by unfold tk; rw [vH]; rfl,vH⟩
   clear h0 Q vH
   go_enter Tryz.func99,Tryz.ntmps99
   go_wp2
   go_ret2
   exact ⟨by rw [(U HT).1,(U HT).2]; rfl,rfl⟩
 ·have b0:(FloatKind.f64.format.order x 0 == some Ordering.gt) = false:=by rw [xd]; exact h0
  have vH:tkOk x = false:=by unfold tkOk; rw [b0]; rfl
  have HT:Hid (tk x = 0∧tkOk x = false):=⟨by unfold tk; rw [vH]; rfl,vH⟩
  clear h0 vH
  go_enter Tryz.func99,Tryz.ntmps99
  go_wp2
  go_ret2
  exact ⟨by rw [(U HT).1,(U HT).2]; rfl,rfl⟩
end Go.Proofs.YtdliebbfcmdmaaaGreat
