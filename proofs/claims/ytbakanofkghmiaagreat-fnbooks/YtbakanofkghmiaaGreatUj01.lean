/-
  Small facts that all walks of this seat lean on: facts kept from the walk, an ending's value, a text's bytes as a list.
-/
import Derived.Test.YtbakanofkghmiaaGreatRows
import Derived.WalkKit
import Derived.Below
import Derived.Deep.MidRow
import Derived.OpenShut
import Derived.Deep.QuietTactic
import Derived.BigQuiet
import Derived.WalkSmall
import Derived.WalkSpells
import Derived.WalkLawsBesides
import Derived.Deep.RegionWith
import Derived.Laws.Externs
set_option linter.unusedVariables false
set_option maxHeartbeats 6400000
set_option maxRecDepth 100000
namespace Go.Proofs.YtbakanofkghmiaaGreat
open Go.RowKit
theorem hide {p:Prop} (h:p):Hid p:=h
theorem U {p:Prop} (h:Hid p):p:=h
theorem zq {a b:Bool} (h:a = b):Ending.returned (.bool a) = .returned (.bool b):=by rw [h]
theorem zv {k:IntKind} {a b:Int} (h:a = b):Ending.returned (.int k a) = .returned (.int k b):=by rw [h]
theorem get_nat (s:ByteArray) (k:Nat) (h:k < s.size):s[k] = s.data.toList[k]'(by simpa using h):=rfl
theorem data_len (s:ByteArray):s.data.toList.length = s.size:=by simp
abbrev H (n : Int) : Value := .int .i64 n
abbrev J (b o : Nat) : Addr := ⟨b, o, none⟩
abbrev I (b o : Nat) : Value := .pointer (some ⟨b, o, none⟩)
theorem hb {n : Nat} : n ≤ n := Nat.le_refl n
theorem ya {xj : Type} {a b : xj} (h : some a = some b) : a = b := Option.some.inj h
theorem Y {p : Prop} (h : p) : Hid p := h
theorem yf {o : Option Value} {v : Value} (h : o = some v) : ∀ u, o = some u → v = u := fun u hu => Option.some.inj (h.symm.trans hu)
theorem yh {o : Option (Option Value)} {v : Value} (h : o = some (some v)) : ∀ u, o = some (some u) → v = u := fun u hu => Option.some.inj (Option.some.inj (h.symm.trans hu))
abbrev yi (n : Nat) : Value := .float .f64 n
abbrev yj (b : ByteArray) : Value := .string b
abbrev M : Value := undef
abbrev N (a : Array Value) (t : TypeId) : Obj := Obj.cells a t
theorem eF {P : Program} {xe : Exit → Act → World → Prop} {a : Act} {w : World} {x y : Code} (h : ∀ hj : Act → World → Prop, Hid (∀ a w, y.wp P xe a w → hj a w) → x.wp P (Exit.then hj xe) a w) : (Code.seq x y).wp P xe a w := wp_seq_k h
theorem eB (w : World) (o : Obj) : Below w.heap.size w (w.alloc o) := (Below.refl _ _).alloc (Nat.le_refl _) _
theorem eE {w w1 w2 : World} (h : Below w.heap.size w w1) (O : Below w1.heap.size w1 w2) : Below w.heap.size w w2 := h.trans (O.mono h.size)
abbrev yt (a b c d e f g : Int) (p : Nat) (s : ByteArray) (h i j k l : Int) : List Value := [.int .i64 a, .int .i64 b, .int .i64 c, .int .i64 d, .int .i64 e, .int .i64 f, .int .i64 g, .float .f64 p, .string s, .int .i64 h, .int .i64 i, .int .i64 j, .int .i64 k, .int .i64 l]
abbrev yu (a b c d e : Int) (s : ByteArray) : List Value := [.int .i64 a, .int .i64 b, .int .i64 c, .int .i64 d, .int .i64 e, .string s]
abbrev yv (a b c d e f : Int) (p : Nat) (s : ByteArray) : List Value := [.int .i64 a, .int .i64 b, .int .i64 c, .int .i64 d, .int .i64 e, .int .i64 f, .float .f64 p, .string s]
abbrev yl (v : Value) : Ending := .returned v
abbrev ym (w w1 : World) : Prop := Below w.heap.size w w1
abbrev yn (w : World) (o : Nat) : Value := .pointer (some ⟨w.heap.size, o, none⟩)
abbrev yp (w : World) (o : Nat) : Addr := ⟨w.heap.size, o, none⟩
theorem yz {W : World} {b : Nat} {v0 v1 v2 v3 v4 : Value} (h : W.rangeAt b 0 [v0, v1, v2, v3, v4]) : W.cell? ⟨b, 0, none⟩ = some v0 ∧ W.cell? ⟨b, 1, none⟩ = some v1 ∧ W.cell? ⟨b, 2, none⟩ = some v2 ∧ W.cell? ⟨b, 3, none⟩ = some v3 ∧ W.cell? ⟨b, 4, none⟩ = some v4 := ⟨h 0 _ rfl, h 1 _ rfl, h 2 _ rfl, h 3 _ rfl, h 4 _ rfl⟩
theorem yA {W : World} {b : Nat} {v0 v1 v2 v3 v4 v5 : Value} (h : W.rangeAt b 0 [v0, v1, v2, v3, v4, v5]) : W.cell? ⟨b, 0, none⟩ = some v0 ∧ W.cell? ⟨b, 1, none⟩ = some v1 ∧ W.cell? ⟨b, 2, none⟩ = some v2 ∧ W.cell? ⟨b, 3, none⟩ = some v3 ∧ W.cell? ⟨b, 4, none⟩ = some v4 ∧ W.cell? ⟨b, 5, none⟩ = some v5 := ⟨h 0 _ rfl, h 1 _ rfl, h 2 _ rfl, h 3 _ rfl, h 4 _ rfl, h 5 _ rfl⟩
theorem yB {W : World} {b : Nat} {v0 v1 v2 v3 v4 v5 v6 v7 : Value} (h : W.rangeAt b 0 [v0, v1, v2, v3, v4, v5, v6, v7]) : W.cell? ⟨b, 0, none⟩ = some v0 ∧ W.cell? ⟨b, 1, none⟩ = some v1 ∧ W.cell? ⟨b, 2, none⟩ = some v2 ∧ W.cell? ⟨b, 3, none⟩ = some v3 ∧ W.cell? ⟨b, 4, none⟩ = some v4 ∧ W.cell? ⟨b, 5, none⟩ = some v5 ∧ W.cell? ⟨b, 6, none⟩ = some v6 ∧ W.cell? ⟨b, 7, none⟩ = some v7 := ⟨h 0 _ rfl, h 1 _ rfl, h 2 _ rfl, h 3 _ rfl, h 4 _ rfl, h 5 _ rfl, h 6 _ rfl, h 7 _ rfl⟩
theorem yC {W : World} {b : Nat} {v0 v1 v2 v3 v4 v5 v6 v7 v8 : Value} (h : W.rangeAt b 0 [v0, v1, v2, v3, v4, v5, v6, v7, v8]) : W.cell? ⟨b, 0, none⟩ = some v0 ∧ W.cell? ⟨b, 1, none⟩ = some v1 ∧ W.cell? ⟨b, 2, none⟩ = some v2 ∧ W.cell? ⟨b, 3, none⟩ = some v3 ∧ W.cell? ⟨b, 4, none⟩ = some v4 ∧ W.cell? ⟨b, 5, none⟩ = some v5 ∧ W.cell? ⟨b, 6, none⟩ = some v6 ∧ W.cell? ⟨b, 7, none⟩ = some v7 ∧ W.cell? ⟨b, 8, none⟩ = some v8 := ⟨h 0 _ rfl, h 1 _ rfl, h 2 _ rfl, h 3 _ rfl, h 4 _ rfl, h 5 _ rfl, h 6 _ rfl, h 7 _ rfl, h 8 _ rfl⟩
theorem yD {W : World} {b : Nat} {v0 v1 v2 v3 v4 v5 v6 v7 v8 v9 v10 v11 v12 v13 : Value} (h : W.rangeAt b 0 [v0, v1, v2, v3, v4, v5, v6, v7, v8, v9, v10, v11, v12, v13]) : W.cell? ⟨b, 0, none⟩ = some v0 ∧ W.cell? ⟨b, 1, none⟩ = some v1 ∧ W.cell? ⟨b, 2, none⟩ = some v2 ∧ W.cell? ⟨b, 3, none⟩ = some v3 ∧ W.cell? ⟨b, 4, none⟩ = some v4 ∧ W.cell? ⟨b, 5, none⟩ = some v5 ∧ W.cell? ⟨b, 6, none⟩ = some v6 ∧ W.cell? ⟨b, 7, none⟩ = some v7 ∧ W.cell? ⟨b, 8, none⟩ = some v8 ∧ W.cell? ⟨b, 9, none⟩ = some v9 ∧ W.cell? ⟨b, 10, none⟩ = some v10 ∧ W.cell? ⟨b, 11, none⟩ = some v11 ∧ W.cell? ⟨b, 12, none⟩ = some v12 ∧ W.cell? ⟨b, 13, none⟩ = some v13 := ⟨h 0 _ rfl, h 1 _ rfl, h 2 _ rfl, h 3 _ rfl, h 4 _ rfl, h 5 _ rfl, h 6 _ rfl, h 7 _ rfl, h 8 _ rfl, h 9 _ rfl, h 10 _ rfl, h 11 _ rfl, h 12 _ rfl, h 13 _ rfl⟩
abbrev yE := @List.getElem?_eq_some_iff
abbrev yF := @List.getElem?_eq_getElem
abbrev yG := @List.getElem?_replicate
abbrev yH := @Nat.lt_of_lt_of_le
abbrev yI := @World.block_lt_of_cell?
abbrev yJ := @World.cell?_setCell_other
abbrev yK := @World.cell?_setCell_same
abbrev yL := @Nat.le_trans
abbrev yM := @List.mem_of_getElem?
abbrev yN := @List.length_append
abbrev yO := @World.cell?_of_block
abbrev yP := @World.grownBy.refl
abbrev yQ := @Below.heap_setCell
abbrev yR := @List.take_succ_cons
abbrev yS := @List.drop_succ_cons
abbrev yT := @World.cell?_alloc_lt
abbrev yU := @List.getElem?_set_ne
abbrev yV := @World.rangeAt_setCells_same
abbrev yW := @Array.getElem?_eq_some_iff
abbrev yX := @List.take_of_length_le
abbrev yY := @List.drop_of_length_le
abbrev yZ := @World.there_setCells
abbrev xa := @List.drop_eq_getElem_cons
abbrev xb := @beq_eq_false_iff_ne
abbrev xc := @Bool.and_eq_true
abbrev xd := @decide_eq_true_eq
theorem yd {tg : Array Edge} {x : List Bool} (h : ∀ e ∈ tg, Region.binds .any e = true → x[e.on]? = some true) (j : Nat) (hm : (tg.toList.any fun e => e.on == j && Region.binds .any e) = true) : x[j]? = some true := by
  obtain ⟨e, he, hp⟩ := List.any_eq_true.1 hm
  rw [Bool.and_eq_true] at hp
  have G : e.on = j := by simpa using hp.1
  have := h e (by simpa using he) hp.2
  rw [G] at this
  exact this
def Rd (w:World) (v:Value) (l:List Int):Prop :=
 ∃ (a:Option Addr) (A:Nat),v = .slice a l.length A∧l.length ≤ 1073741824 ∧
  (l ≠ []→∃ b off,a = some (J b off)∧∀ i,i < l.length→w.cell? (J b (off + i)) = some (.int .u8 (l.getD i 0)))
theorem aP {a b c:World} {row:Option Nat} (h:a.grownBy b row) (k:b.grownBy c row):a.grownBy c row :=
 ⟨k.os.trans h.os,k.tape.trans h.tape,k.output.trans h.output,yL h.size k.size,
  fun i hi xA=>(k.block i (yH hi h.size) xA).trans (h.block i hi xA)⟩
theorem gr_set (w:World) (a:Addr) (u:Value):w.grownBy (w.setCell a u) (some a.block) :=
 ⟨rfl,rfl,rfl,by simp [World.setCell],fun k _ xA=>yQ _ _ _ _ (fun e=>xA (by rw [e]))⟩
theorem gr_drewN (w:World) (n:Nat) (row:Option Nat):w.grownBy (w.drewN n) row:=⟨rfl,rfl,rfl,Nat.le_refl _,fun _ _ _=>rfl⟩
theorem gr_below {w w':World} {g B:Nat} (h:w.grownBy w' (some g)) (hB:B ≤ g) (hs:B ≤ w.heap.size):Below B w w' :=
 ⟨h.os,h.tape,h.output,h.size,fun k hk=>h.block k (by omega) (by simp; omega)⟩
theorem zQ {g a b:Nat} (h:a ≠ b):((J g a):Addr) ≠ (J g b):=by
 intro e; injection e; exact h (by assumption)
def Own (B:Nat) (w:World) (v:Value) (l:List Int):Prop :=
 ∃ g A,v = .slice (some (J g 0)) l.length A∧B ≤ g∧g < w.heap.size∧l.length ≤ 1073741824 ∧
  (∀ i,i < l.length→w.cell? (J g (0 + i)) = some (.int .u8 (l.getD i 0)))∧∀ i,i < l.length→w.frozen? (J g (0 + i)) = false
theorem Tryz.infoByte:(Tryz.prog.info? 5).map (fun i=>(i.zero,i.size,i.bytes)) = some (some (.int .u8 0),1,1):=by kernel_rfl
def OwnT (B:Nat) (w:World) (v:Value) (l:List Int):Prop :=
 ∃ g A xp t,v = .slice (some (J g 0)) l.length A∧B ≤ g∧w.heap[g]? = some (.cells xp t (0,0))∧l.length ≤ A∧A ≤ xp.size∧A ≤ maxLen∧l.length ≤ 1073741824 ∧
  xp.toList.take l.length = l.map (Value.int .u8)
theorem cell_head {w:World} {g t:Nat} {xp:Array Value} {l:List Int} (hg:w.heap[g]? = some (.cells xp t (0,0))) (ht:xp.toList.take l.length = l.map (Value.int .u8)) {i:Nat} (hi:i < l.length) :
  w.cell? (J g i) = some (.int .u8 (l.getD i 0)):=by
 rw [cell_of_row w g i xp t (0,0) hg]
 have G:(xp.toList.take l.length)[i]? = (l.map (Value.int .u8))[i]?:=by rw [ht]
 rw [List.getElem?_take,if_pos hi,List.getElem?_map,yF hi] at G
 simpa [hi] using G
theorem OwnT.own {B:Nat} {w:World} {v:Value} {l:List Int} (h:OwnT B w v l):Own B w v l:=by
 obtain ⟨g,A,xp,t,rfl,O,hg,_,_,_,hl,ht⟩:=h
 exact ⟨g,A,rfl,O,(yW.1 hg).1,hl,fun i hi=>by rw [Nat.zero_add]; exact cell_head hg ht hi,fun i _=>by simp [World.frozen?,hg]⟩
theorem OwnT.ge {B:Nat} {w:World} {v:Value} {l:List Int} (h:OwnT B w v l):∀ k,v.ownBlock = some k→B ≤ k:=by
 obtain ⟨g,A,xp,t,rfl,O,_⟩:=h
 intro k hk
 simp [Value.ownBlock] at hk
 omega
def Arr (yk B:Nat) (w wr:World) (done:List Int):Prop :=
 ∃ xp t,wr.heap[B]? = some (.cells xp t (0,0))∧xp.size = yk∧done.length ≤ yk∧xp.toList.take done.length = done.map (Value.int .u8)∧Below B w wr
theorem Arr.below {yk B:Nat} {w wr:World} {done:List Int} (h:Arr yk B w wr done):Below B w wr:=by
 obtain ⟨_,_,_,_,_,_,h⟩:=h; exact h
theorem Arr.lt {yk B:Nat} {w wr:World} {done:List Int} (h:Arr yk B w wr done):B < wr.heap.size:=by
 obtain ⟨_,_,h,_⟩:=h; exact (yW.1 h).1
theorem Arr.some {yk B:Nat} {w wr:World} {done:List Int} (h:Arr yk B w wr done) {j:Nat} (K:j < yk):∃ v,wr.cell? (J B j) = .some v:=by
 obtain ⟨xp,t,G,D,_⟩:=h
 exact ⟨_,(cell_of_row wr B j xp t (0,0) G).trans (Array.getElem?_eq_getElem (by omega))⟩
theorem cA {B:Nat} {a w:World} (h:Below B a w) (n:Nat):Below B a (w.drewN n):=h.trans ⟨rfl,rfl,rfl,Nat.le_refl _,fun _ _=>rfl⟩
def Bts (l:List Int):Prop:=∀ x ∈ l,0 ≤ x∧x ≤ 255
theorem bts_get {l:List Int} (h:Bts l) (k:Nat):0 ≤ l.getD k 0∧l.getD k 0 ≤ 255:=by
 by_cases hk:k < l.length
 ·have e:l.getD k 0 = l[k]:=by simp [hk]
  rw [e]; exact h _ (List.getElem_mem hk)
 ·simp [Nat.le_of_not_lt hk]
theorem rd_of_row {w:World} {a:Option Addr} {len A:Nat} {zs:List Int}
  (h:(a = none∧len = 0∧A = 0∧zs = []) ∨ ∃ x,a = some x∧len ≤ A∧A ≤ maxLen∧zs.length = A∧(∀ i,i < zs.length→w.cell? (x.add i) = some (.int .u8 (zs.getD i 0)))∧∀ n ∈ zs,(Lit.int .u8 n).wf = true)
  (hl:len ≤ 1073741824):(zs.take len).length = len∧Rd w (.slice a len A) (zs.take len)∧Bts (zs.take len):=by
 rcases h with ⟨rfl,rfl,rfl,rfl⟩ | ⟨x,rfl,G,_,hz,hc,hw⟩
 ·exact ⟨rfl,⟨none,0,rfl,by simp,fun h=>absurd rfl h⟩,fun x hx=>by simp at hx⟩
 ·have xC:(zs.take len).length = len:=by rw [List.length_take]; omega
  refine ⟨xC,⟨some x,A,by rw [xC],by omega,fun xA=>?_⟩,fun n hn=>bounds_u8 (hw n (List.mem_of_mem_take hn))⟩
  have hp:0 < len:=by
   rcases Nat.eq_zero_or_pos len with h0 | h0
   ·subst h0; simp at xA
   ·exact h0
  obtain ⟨b,off,spot⟩:=x
  have h0:=hc 0 (by omega)
  have hspot:spot = none:=by simpa [Addr.add] using World.cell?_spot h0
  subst hspot
  refine ⟨b,off,rfl,fun i hi=>?_⟩
  rw [xC] at hi
  have:=hc i (by omega)
  have e:((J b off):Addr).add i = (J b (off + i)):=by unfold Addr.add; split <;> simp_all
  rw [e] at this
  rw [this]
  have e2:(zs.take len).getD i 0 = zs.getD i 0:=by simp [hi]
  rw [e2]
theorem rd_grown {w w':World} {v:Value} {l:List Int} {B:Nat} (h:Rd w v l) (hg:w.grownBy w' (some B)) (hB:l ≠ []→v.ownBlock ≠ some B):Rd w' v l:=by
 obtain ⟨a,A,rfl,hl,hc⟩:=h
 refine ⟨a,A,rfl,hl,fun xA=>?_⟩
 obtain ⟨b,off,rfl,xo⟩:=hc xA
 have O:some b ≠ some B:=fun e=>hB xA (by simpa [Value.ownBlock] using e)
 exact ⟨b,off,rfl,fun i hi=>(yO (a:=(J b (off + i))) (hg.block b (yI w _ (xo i hi)) O)).trans (xo i hi)⟩
structure Src (B:Nat) (w:World) (v:Value) (l:List Int) (m:Int):Prop where
 rd:Rd w v l
 ne:l ≠ []→v.ownBlock ≠ some B
 bts:Bts l
 code:w.cell? ⟨B,0,none⟩ = some v
 cells:∃ at_ seed:Int,0 ≤ at_∧at_ ≤ m∧0 ≤ seed∧seed < 2147483648∧w.cell? ⟨B,1,none⟩ = some (.int .i64 at_)∧w.cell? ⟨B,2,none⟩ = some (.int .i64 seed)
 free1:w.frozen? ⟨B,1,none⟩ = false
 free2:w.frozen? ⟨B,2,none⟩ = false
def aA (B:Nat) (w:World) (v:Value) (l:List Int) (m:Int) (w':World):Prop:=Src B w' v l m∧w.grownBy w' (some B)
theorem bL {B:Nat} {w:World} {v:Value} {l:List Int} {m:Int} (h:Src B w v l m):aA B w v l m w:=⟨h,yP _ _⟩
theorem bp {B:Nat} {w:World} {v:Value} {l:List Int} {m n:Int} (h:Src B w v l m) (hn:m ≤ n):Src B w v l n:=by
 obtain ⟨G,D,h3,h4,⟨a,s,k0,k1,k2⟩,h6,h7⟩:=h
 exact ⟨G,D,h3,h4,⟨a,s,k0,by omega,k2⟩,h6,h7⟩
theorem dt {B:Nat} {w0 w:World} {v:Value} {l:List Int} {m:Int} (h:aA B w0 v l m w) (q:Nat):aA B w0 v l m (w.drewN q) :=
 ⟨⟨h.1.rd,h.1.ne,h.1.bts,h.1.code,h.1.cells,h.1.free1,h.1.free2⟩,aP h.2 (gr_drewN _ q _)⟩
theorem src_at {B:Nat} {w0 w:World} {v:Value} {l:List Int} {m:Int} (h:aA B w0 v l m w) (a:Int) (h0:0 ≤ a) (ha:a ≤ m + 1):aA B w0 v l (m + 1) (w.setCell (J B 1) (H a)):=by
 obtain ⟨h,hg⟩:=h
 obtain ⟨at0,s0,_,_,k2,k3,G,D⟩:=h.cells
 have g:=gr_set w (J B 1) (H a)
 exact ⟨⟨rd_grown h.rd g h.ne,h.ne,h.bts,(yJ _ _ _ _ (zQ (by omega))).trans h.code,
  ⟨a,s0,h0,ha,k2,k3,yK _ _ _ G,(yJ _ _ _ _ (zQ (by omega))).trans D⟩,
  (World.frozen?_setCell _ _ _ _).trans h.free1,(World.frozen?_setCell _ _ _ _).trans h.free2⟩,aP hg g⟩
theorem src_seed {B:Nat} {w0 w:World} {v:Value} {l:List Int} {m:Int} (h:aA B w0 v l m w) (s:Int) (h0:0 ≤ s) (hs:s < 2147483648):aA B w0 v l m (w.setCell (J B 2) (H s)):=by
 obtain ⟨h,hg⟩:=h
 obtain ⟨at0,s0,k0,k1,_,_,G,D⟩:=h.cells
 have g:=gr_set w (J B 2) (H s)
 exact ⟨⟨rd_grown h.rd g h.ne,h.ne,h.bts,(yJ _ _ _ _ (zQ (by omega))).trans h.code,
  ⟨at0,s,k0,k1,h0,hs,(yJ _ _ _ _ (zQ (by omega))).trans G,yK _ _ _ D⟩,
  (World.frozen?_setCell _ _ _ _).trans h.free1,(World.frozen?_setCell _ _ _ _).trans h.free2⟩,aP hg g⟩
theorem src_step {B:Nat} {w w1:World} {v:Value} {l:List Int} {m at_ oN:Int} (h:Src B w v l m) (h0:0 ≤ at_) (ha:at_ ≤ m) (c1:w.cell? (J B 1) = some (H at_)) (c2:w.cell? (J B 2) = some (H oN))
  (hw:w.setCell (J B 1) (H (at_ + 1)) = w1) :
  aA B w v l (m + 1) w1∧w1.cell? (J B 0) = some v∧w1.cell? (J B 1) = some (H (at_ + 1))∧w1.cell? (J B 2) = some (H oN)∧w1.frozen? (J B 2) = false∧Rd w1 v l:=by
 subst hw
 have k:=src_at (bL h) (at_ + 1) (by omega) (by omega)
 exact ⟨k,k.1.code,yK _ _ _ c1,(yJ _ _ _ _ (zQ (by omega))).trans c2,k.1.free2,k.1.rd⟩
theorem seed_step {B:Nat} {w0 w1 w2:World} {v:Value} {l:List Int} {m at_ s:Int} (h:aA B w0 v l m w1) (d1:w1.cell? (J B 1) = some (H at_)) (h0:0 ≤ s) (hs:s < 2147483648)
  (hw:w1.setCell (J B 2) (H s) = w2) :
  aA B w0 v l m w2∧w2.cell? (J B 0) = some v∧w2.cell? (J B 1) = some (H at_)∧w2.cell? (J B 2) = some (H s)∧Rd w2 v l:=by
 subst hw
 obtain ⟨_,_,_,_,_,_,_,k⟩:=h.1.cells
 have g:=src_seed h s h0 hs
 exact ⟨g,g.1.code,(yJ _ _ _ _ (zQ (by omega))).trans d1,yK _ _ _ k,g.1.rd⟩
theorem byte_any (B:Nat) (v:Value) (l:List Int) (m:Int) (w:World) (h:Src B w v l m) (hm:m ≤ 1073741824) :
  Calls Tryz.prog 102 #[I B 0] w fun e w'=>∃ y:Int,e = yl (H y)∧0 ≤ y∧y ≤ 255∧aA B w v l (m + 1) w':=by
 have HS:=Y h
 obtain ⟨xL,xA,hbts,hcode,⟨at_,oN,ha0,ha,hs0,hs,c1,c2⟩,f1,f2⟩:=h
 have uI:=Y (fun w1 h=>src_step (w1:=w1) (U HS) ha0 ha c1 c2 h)
 obtain ⟨a,A,rfl,hl,hc⟩:=xL
 have HB:=Y hbts
 clear hbts hc c2 HS f2 xA
 go_enter Tryz.func102,Tryz.ntmps102
 go_wp2_with fail
 generalize hw1:w.setCell (J B 1) (H (at_ + 1)) = w1
 obtain ⟨hE,d0,d1,d2,g2,hrd1⟩:=U uI w1 hw1
 have HE:=Y hE
 obtain ⟨a',pq,e',_,hc⟩:=hrd1
 simp only [Value.slice.injEq,true_and] at e'
 obtain ⟨rfl,rfl⟩:=e'
 clear hE uI hw1 c1 f1 hcode
 by_cases G:at_ + 1 ≤ l.length
 ·have hc':=hc (by intro e; subst e; simp at G; omega)
  obtain ⟨b,off,rfl,xo⟩:=hc'
  obtain ⟨k,rfl⟩:=Int.eq_ofNat_of_zero_le ha0
  have hck:=xo k (by omega)
  have hbk:=bts_get (U HB) k
  generalize hx:l.getD k 0 = x at *
  have HX:=Y hx
  clear hx
  obtain ⟨hx0,hx1⟩:=hbk
  have h1'':(k:Int) < l.length:=by omega
  clear hc xo
  go_quiet (fail)
  go_wp2_with fail
  have hd:Rd w1 (.slice (some (J b off)) l.length A) l:=(U HE).1.rd
  go_region
  all_goals
   generalize hw2:(w1.drewN _).setCell (J B 2) (H ((oN * 31 + x + 7) % 2147483648)) = w2
   obtain ⟨hE2,t0,t1,t2,hrd2⟩:=seed_step (dt (U HE) _) d1 (by omega) (by omega) hw2
   have oO:=Y hE2
   obtain ⟨a2,cap2,e2,_,hc2⟩:=hrd2
   obtain ⟨b2,off2,e3,hc3⟩:=hc2 (by intro e; subst e; simp at h1''; omega)
   simp only [Value.slice.injEq,true_and] at e2
   obtain ⟨rfl,rfl⟩:=e2
   simp only [Option.some.injEq,Addr.mk.injEq,and_true] at e3
   obtain ⟨rfl,rfl⟩:=e3
   have tck:=hc3 k (by omega)
   have hx:l.getD k 0 = x:=U HX
   rw [hx] at tck
   clear hE2 hc2 hc3 hw2 d0 d1 d2 hck hx hd
   go_wp2_with fail
   go_quiet (fail)
   go_wp2_with fail
   go_ret
   exact ⟨_,rfl,by omega,by omega,dt (U oO) _⟩
 ·have kn:(l.length:Int) < at_ + 1:=by omega
  clear hc
  by_cases D:3000 < at_ + 1
  ·go_quiet (fail)
   go_wp2_with fail
   go_ret
   exact ⟨_,rfl,by omega,by omega,dt (U HE) _⟩
  ·go_quiet (fail)
   go_wp2_with fail
   go_ret
   exact ⟨_,rfl,by omega,by omega,src_seed (dt (U HE) _) _ (by omega) (by omega)⟩
theorem aQ (B:Nat) (v:Value) (l:List Int) (m n:Int) (w:World) (h:Src B w v l m) (hm:m ≤ 1000000000) (G:1 ≤ n) (D:n ≤ 1073741824) :
  Calls Tryz.prog 59 #[I B 0,H n] w fun e w'=>∃ y:Int,e = yl (H y)∧0 ≤ y∧y < n∧aA B w v l (m + 3) w':=by
 have HS:=Y h
 clear h
 by_cases k1:n ≤ 1
 ·go_enter Tryz.func59,Tryz.ntmps59
  go_wp2_with fail
  go_ret
  exact ⟨_,rfl,by omega,by omega,bL (bp (U HS) (by omega))⟩
 by_cases k2:n ≤ 256
 ·go_enter Tryz.func59,Tryz.ntmps59
  go_wp2_with fail
  refine (byte_any B v l m _ (U HS) (by omega)).mono ?_
  rintro e w1 ⟨y,rfl,jI,kX,hE⟩
  have HE:=Y hE
  clear hE
  have xA:(n == 0) = false:=by simp; omega
  go_wp2_with fail
  go_ret
  exact ⟨_,rfl,by first | omega | exact Int.emod_nonneg _ (by omega),by first | omega | exact Int.emod_lt_of_pos _ (by omega),bp (U HE).1 (by omega),(U HE).2⟩
 go_enter Tryz.func59,Tryz.ntmps59
 go_wp2_with fail
 refine (byte_any B v l m _ (U HS) (by omega)).mono ?_
 rintro e w1 ⟨y1,rfl,jI,kX,hE⟩
 have pf:=Y hE
 clear hE
 go_wp2_with fail
 refine (byte_any B v l _ _ (U pf).1 (by omega)).mono ?_
 rintro e w2 ⟨y2,rfl,uF,uK,hE⟩
 have oO:=Y hE
 clear hE
 go_wp2_with fail
 refine (byte_any B v l _ _ (U oO).1 (by omega)).mono ?_
 rintro e w3 ⟨y3,rfl,hu0,hu1,hE⟩
 have HE3:=Y hE
 clear hE
 have xA:(n == 0) = false:=by simp; omega
 go_wp2_with fail
 go_ret
 exact ⟨_,rfl,by first | omega | exact Int.emod_nonneg _ (by omega),by first | omega | exact Int.emod_lt_of_pos _ (by omega),bp (U HE3).1 (by omega),aP (aP (U pf).2 (U oO).2) (U HE3).2⟩
theorem chance_any (B:Nat) (v:Value) (l:List Int) (m n:Int) (w:World) (h:Src B w v l m) (hm:m ≤ 1000000000) (G:1 ≤ n) (D:n ≤ 1073741824) :
  Calls Tryz.prog 105 #[I B 0,H n] w fun e w'=>∃ b:Bool,e = yl (.bool b)∧aA B w v l (m + 3) w':=by
 have HS:=Y h
 clear h
 go_enter Tryz.func105,Tryz.ntmps105
 go_wp2_with fail
 refine (aQ B v l m n _ (U HS) hm G D).mono ?_
 rintro e w1 ⟨y,rfl,jI,kX,hE⟩
 have HE:=Y hE
 clear hE
 go_wp2_with fail
 go_ret
 exact ⟨_,rfl,U HE⟩
theorem bD (w:World) (o:Obj) (row:Option Nat):w.grownBy (w.alloc o) row :=
 ⟨rfl,rfl,rfl,by simp,fun k hk _=>((Below.refl _ w).alloc hb o).block k hk⟩
theorem src_lt {B:Nat} {w:World} {v:Value} {l:List Int} {m:Int} (h:Src B w v l m):B < w.heap.size:=yI w _ h.code
theorem ch {B:Nat} {w0 w:World} {v:Value} {l:List Int} {m:Int} (h:aA B w0 v l m w) (o:Obj):aA B w0 v l m (w.alloc o):=by
 have hB:=src_lt h.1
 obtain ⟨a,s,k1,k2,k3,k4,k5,k6⟩:=h.1.cells
 have e:∀ i,(w.alloc o).cell? (J B i) = w.cell? (J B i):=fun i=>yT _ _ (J B i) hB
 have f:∀ i,(w.alloc o).frozen? (J B i) = w.frozen? (J B i):=fun i=>World.frozen?_of_block (a:=(J B i)) ((bD w o none).block B hB (by simp))
 exact ⟨⟨rd_grown h.1.rd (bD w o _) h.1.ne,h.1.ne,h.1.bts,(e 0).trans h.1.code,⟨a,s,k1,k2,k3,k4,(e 1).trans k5,(e 2).trans k6⟩,(f 1).trans h.1.free1,(f 2).trans h.1.free2⟩,aP h.2 (bD w o _)⟩
theorem rd_new {w:World} {v:Value} {l:List Int} (h:Rd w v l) (xA:l ≠ []):v.ownBlock ≠ some w.heap.size:=by
 obtain ⟨a,A,rfl,_,hc⟩:=h
 obtain ⟨b,off,rfl,xo⟩:=hc xA
 have:=yI w _ (xo 0 (List.length_pos_iff.2 xA))
 simp only [Value.ownBlock,ne_eq,Option.some.injEq]
 intro e
 simp only at this
 omega
theorem source_any (v:Value) (l:List Int) (w:World) (h:Rd w v l) (O:Bts l) :
  Calls Tryz.prog 29 #[v] w fun e w'=>e = yl (yn w 0)∧Src w.heap.size w' v l 0∧ym w w':=by
 have HR:=Y h
 have HB:=Y O
 have HV:=Y (fun xA=>rd_new h xA)
 obtain ⟨a,A,rfl,hl,_⟩:=h
 clear O
 go_enter Tryz.func29,Tryz.ntmps29
 go_wp2_with fail
 go_ret
 refine ⟨rfl,⟨rd_grown (U HR) (bD w _ _) (U HV),U HV,U HB,cell_of_row _ _ _ _ _ (0,0) (heap_alloc_new w _),⟨0,(l.length:Int) % 1000,by omega,by omega,by omega,by omega,cell_of_row _ _ _ _ _ (0,0) (heap_alloc_new w _),cell_of_row _ _ _ _ _ (0,0) (heap_alloc_new w _)⟩,?_,?_⟩,(Below.refl _ w).alloc hb _⟩
 all_goals
  unfold World.frozen?
  rw [heap_alloc_new]
  simp
theorem own_below_grown {w w1 w':World} {B:Nat} (G:ym w w1) (hB:w.heap.size ≤ B) (D:w1.grownBy w' (some B)):ym w w' :=
 G.trans (gr_below D hB G.size)
theorem odd_row (k:Nat) (w:World) (t:TypeId) (h:k < 12) :
  ∃ z:Int,-9223372036854775808 ≤ z∧z ≤ 9223372036854775807∧(w.alloc (.cells #[H 0,H (-1),H 1,H 2,H 63,H 64,H 65,H 4096,H 4097,H 9223372036854775807,H (-9223372036854775808),H 30] t)).cell? (yp w k) = some (H z):=by
 rcases (show k = 0 ∨ k = 1 ∨ k = 2 ∨ k = 3 ∨ k = 4 ∨ k = 5 ∨ k = 6 ∨ k = 7 ∨ k = 8 ∨ k = 9 ∨ k = 10 ∨ k = 11 by omega) with rfl | rfl | rfl | rfl | rfl | rfl | rfl | rfl | rfl | rfl | rfl | rfl
 all_goals exact ⟨_,by decide,by decide,cell_of_row _ _ _ _ _ (0,0) (heap_alloc_new w _)⟩
theorem odd_any (B:Nat) (v:Value) (l:List Int) (m:Int) (w:World) (h:Src B w v l m) (hm:m ≤ 1000000000) :
  Calls Tryz.prog 162 #[I B 0] w fun e w'=>∃ y:Int,e = yl (H y)∧-9223372036854775808 ≤ y∧y ≤ 9223372036854775807∧aA B w v l (m + 3) w':=by
 have HS:=Y h
 have hB:=src_lt h
 clear h
 go_enter Tryz.func162,Tryz.ntmps162
 go_wp2_with fail
 refine (aQ B v l m 12 _ (ch (bL (U HS)) _).1 hm (by omega) (by omega)).mono ?_
 rintro e w1 ⟨y,rfl,jI,kX,hE⟩
 obtain ⟨k,rfl⟩:=Int.eq_ofNat_of_zero_le jI
 obtain ⟨z,uF,uK,hz⟩:=odd_row k w 3 (by omega)
 have HE:=Y (show aA B w v l (m + 3) w1 from ⟨hE.1,aP (bD w _ _) hE.2⟩)
 have hc:=hE.2.cell hz (by simp; omega)
 clear hE hz
 go_wp2_with fail
 go_ret
 exact ⟨_,rfl,uF,uK,U HE⟩
theorem number_drawn (B:Nat) (v:Value) (l:List Int) (m:Int) (w:World) (h:Src B w v l m) (hm:m ≤ 900000000) :
  Calls Tryz.prog 141 #[I B 0] w fun e w'=>∃ y:Int,e = yl (H y)∧-9223372036854775808 ≤ y∧y ≤ 9223372036854775807∧aA B w v l (m + 6) w':=by
 have HS:=Y h
 clear h
 go_enter Tryz.func141,Tryz.ntmps141
 go_wp2_with fail
 refine (chance_any B v l m 4 _ (U HS) (by omega) (by omega) (by omega)).mono ?_
 rintro e w1 ⟨b,rfl,hE⟩
 have HE:=Y hE
 clear hE
 cases b
 ·go_wp2_with fail
  refine (aQ B v l _ 400 _ (U HE).1 (by omega) (by omega) (by omega)).mono ?_
  rintro e w2 ⟨y,rfl,jI,kX,hE2⟩
  have oO:=Y hE2
  clear hE2
  go_wp2_with fail
  go_ret
  exact ⟨_,rfl,by omega,by omega,bp (U oO).1 (by omega),aP (U HE).2 (U oO).2⟩
 ·go_wp2_with fail
  refine (odd_any B v l _ _ (U HE).1 (by omega)).mono ?_
  rintro e w2 ⟨y,rfl,jI,kX,hE2⟩
  have oO:=Y hE2
  clear hE2
  go_wp2_with fail
  go_ret
  exact ⟨_,rfl,jI,kX,bp (U oO).1 (by omega),aP (U HE).2 (U oO).2⟩
def nanB (x:Nat):Bool:=FloatKind.f64.format.order x x != some Ordering.eq
theorem datum_self (d:Ieee.Datum) (h:¬ d.isNaN = true):d.order d = some Ordering.eq:=by
 cases d with
 | nan s f=>simp [Ieee.Datum.isNaN] at h
 | infinity s=>cases s <;> rfl
 | number s m i=>simp [Ieee.Datum.order,Std.ReflCmp.compare_self]
theorem fbits (x:Nat) (w:World):(callFunc 168 #[yi x]).run Tryz.prog w = .ok (.value (.int .u64 x)) w:=by
 rw [run_callFunc_extern (e:=Extern.MathFloatBits.float64bits) Tryz.func168 (by kernel_rfl) (by kernel_rfl) (by kernel_rfl) (by kernel_rfl)]
 rfl
theorem isNaN_any (x:Nat) (w:World) :
  Calls Tryz.prog 167 #[yi x] w fun e w'=>e = yl (.bool (nanB x))∧w' = w:=by
 go_enter Tryz.func167,Tryz.ntmps167
 go_wp2
 go_ret
 exact ⟨rfl,rfl⟩
theorem sub_one (W:World):(binOp .sub 41 (yi 4607182418800017408) (yi 4607182418800017408)).run Tryz.prog W = .ok (yi 0) W:=by
 have h:FloatKind.f64.format.sub 4607182418800017408 4607182418800017408 = some 0:=by kernel_rfl
 simp [binOp,Op.floatArith,h]
theorem neg_zero (W:World):(Op.unary .neg (yi 0)).run Tryz.prog W = .ok (yi 9223372036854775808) W:=by
 kernel_rfl
theorem one_zero (W:World):(binOp .quo 41 (yi 4607182418800017408) (yi 0)).run Tryz.prog W = .ok (yi 9218868437227405312) W:=by
 have h:FloatKind.f64.format.div 4607182418800017408 0 = some 9218868437227405312:=by kernel_rfl
 simp [binOp,Op.floatArith,h]
theorem less_zero (W:World):(binOp .quo 41 (yi 13830554455654793216) (yi 0)).run Tryz.prog W = .ok (yi 18442240474082181120) W:=by
 have h:FloatKind.f64.format.div 13830554455654793216 0 = some 18442240474082181120:=by kernel_rfl
 simp [binOp,Op.floatArith,h]
def nanOf (W:World):Nat:=(Question.nanBits .f64 0 0).cut (W.tape W.drawn (.nanBits .f64 0 0))
theorem zero_zero (W:World):(binOp .quo 41 (yi 0) (yi 0)).run Tryz.prog W = .ok (yi (nanOf W)) W.drew:=by
 have h:FloatKind.f64.format.div 0 0 = none:=by kernel_rfl
 simp [binOp,Op.floatArith,h,nanOf,choose]
 rfl
theorem zero_any (w:World):Calls Tryz.prog 163 #[] w fun e w'=>e = yl (yi 0)∧w' = w:=by
 have h:=sub_one
 go_enter Tryz.func163,Tryz.ntmps163
 go_wp2_with fail
 go_ret
 exact ⟨rfl,rfl⟩
theorem size_any (B:Nat) (v:Value) (l:List Int) (m most:Int) (w:World) (h:Src B w v l m) (h0:1 ≤ most) (G:most ≤ 1000000) :
  Calls Tryz.prog 60 #[I B 0,H most] w fun e w'=>∃ y:Int,e = yl (H y)∧1 ≤ y∧y ≤ most∧w' = w:=by
 have c:=h.code
 obtain ⟨a,A,rfl,hl,_⟩:=h.rd
 clear h
 go_enter Tryz.func60,Tryz.ntmps60
 go_wp2_with fail
 all_goals go_ret
 all_goals exact ⟨_,rfl,by omega,by omega,rfl⟩
theorem frombitsS (n:Int) (w:World):(callFunc 169 #[.int .u64 n]).run Tryz.prog w = .ok (.value (yi n.toNat)) w:=by
 rw [run_callFunc_extern (e:=Extern.MathFloatBits.float64frombits) Tryz.func169 (by kernel_rfl) (by kernel_rfl) (by kernel_rfl) (by kernel_rfl)]
 rfl
end Go.Proofs.YtbakanofkghmiaaGreat
