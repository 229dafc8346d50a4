/-
  Small facts that all walks of this seat lean on: facts kept from the walk, an ending's value, a text's bytes as a list.
-/
import Derived.Test.YtbakanofkghmiaaGreatRows
import Derived.WalkKit
import Derived.Below
import Derived.Deep.MidRow
import Derived.OpenShut
import Derived.Deep.QuietTactic
import Derived.BigQuiet
import Derived.WalkSmall
import Derived.WalkSpells
import Derived.WalkLawsBesides
import Derived.Deep.RegionWith
import Derived.Laws.Externs
set_option linter.unusedVariables false
set_option maxHeartbeats 6400000
set_option maxRecDepth 100000
namespace Go.Proofs.YtbakanofkghmiaaGreat
open Go.RowKit
theorem hide {p:Prop} (h:p):Hid p:=h
theorem M {p:Prop} (h:Hid p):p:=h
theorem zl {a b:Bool} (h:a = b):Ending.returned (.bool a) = .returned (.bool b):=by rw [h]
theorem zv {k:IntKind} {a b:Int} (h:a = b):Ending.returned (.int k a) = .returned (.int k b):=by rw [h]
theorem get_nat (s:ByteArray) (k:Nat) (h:k < s.size):s[k] = s.data.toList[k]'(by simpa using h):=rfl
theorem data_len (s:ByteArray):s.data.toList.length = s.size:=by simp
abbrev H (n : Int) : Value := .int .i64 n
abbrev J (b o : Nat) : Addr := ⟨b, o, none⟩
abbrev I (b o : Nat) : Value := .pointer (some ⟨b, o, none⟩)
theorem tg {n : Nat} : n ≤ n := Nat.le_refl n
theorem hD {hR : Type} {a b : hR} (h : some a = some b) : a = b := Option.some.inj h
theorem Q {p : Prop} (h : p) : Hid p := h
theorem ye {o : Option Value} {v : Value} (h : o = some v) : ∀ u, o = some u → v = u := fun u hu => Option.some.inj (h.symm.trans hu)
theorem yf {o : Option (Option Value)} {v : Value} (h : o = some (some v)) : ∀ u, o = some (some u) → v = u := fun u hu => Option.some.inj (Option.some.inj (h.symm.trans hu))
abbrev yh (n : Nat) : Value := .float .f64 n
abbrev yi (b : ByteArray) : Value := .string b
abbrev Z : Value := undef
abbrev E (a : Array Value) (t : TypeId) : Obj := Obj.cells a t
theorem eH {P : Program} {ya : Exit → Act → World → Prop} {a : Act} {w : World} {x y : Code} (h : ∀ h2 : Act → World → Prop, Hid (∀ a w, y.wp P ya a w → h2 a w) → x.wp P (Exit.then h2 ya) a w) : (Code.seq x y).wp P ya a w := wp_seq_k h
theorem eD (w : World) (o : Obj) : Below w.heap.size w (w.alloc o) := (Below.refl _ _).alloc (Nat.le_refl _) _
theorem eG {w w1 w2 : World} (h : Below w.heap.size w w1) (hb : Below w1.heap.size w1 w2) : Below w.heap.size w w2 := h.trans (hb.mono h.size)
abbrev ys (a b c d e f g : Int) (p : Nat) (s : ByteArray) (h i j k l : Int) : List Value := [.int .i64 a, .int .i64 b, .int .i64 c, .int .i64 d, .int .i64 e, .int .i64 f, .int .i64 g, .float .f64 p, .string s, .int .i64 h, .int .i64 i, .int .i64 j, .int .i64 k, .int .i64 l]
abbrev yt (a b c d e : Int) (s : ByteArray) : List Value := [.int .i64 a, .int .i64 b, .int .i64 c, .int .i64 d, .int .i64 e, .string s]
abbrev yu (a b c d e f : Int) (p : Nat) (s : ByteArray) : List Value := [.int .i64 a, .int .i64 b, .int .i64 c, .int .i64 d, .int .i64 e, .int .i64 f, .float .f64 p, .string s]
abbrev yk (v : Value) : Ending := .returned v
abbrev yl (w w1 : World) : Prop := Below w.heap.size w w1
abbrev ym (w : World) (o : Nat) : Value := .pointer (some ⟨w.heap.size, o, none⟩)
abbrev yn (w : World) (o : Nat) : Addr := ⟨w.heap.size, o, none⟩
theorem yy {W : World} {b : Nat} {v0 v1 v2 v3 v4 : Value} (h : W.rangeAt b 0 [v0, v1, v2, v3, v4]) : W.cell? ⟨b, 0, none⟩ = some v0 ∧ W.cell? ⟨b, 1, none⟩ = some v1 ∧ W.cell? ⟨b, 2, none⟩ = some v2 ∧ W.cell? ⟨b, 3, none⟩ = some v3 ∧ W.cell? ⟨b, 4, none⟩ = some v4 := ⟨h 0 _ rfl, h 1 _ rfl, h 2 _ rfl, h 3 _ rfl, h 4 _ rfl⟩
theorem yz {W : World} {b : Nat} {v0 v1 v2 v3 v4 v5 : Value} (h : W.rangeAt b 0 [v0, v1, v2, v3, v4, v5]) : W.cell? ⟨b, 0, none⟩ = some v0 ∧ W.cell? ⟨b, 1, none⟩ = some v1 ∧ W.cell? ⟨b, 2, none⟩ = some v2 ∧ W.cell? ⟨b, 3, none⟩ = some v3 ∧ W.cell? ⟨b, 4, none⟩ = some v4 ∧ W.cell? ⟨b, 5, none⟩ = some v5 := ⟨h 0 _ rfl, h 1 _ rfl, h 2 _ rfl, h 3 _ rfl, h 4 _ rfl, h 5 _ rfl⟩
theorem yA {W : World} {b : Nat} {v0 v1 v2 v3 v4 v5 v6 v7 : Value} (h : W.rangeAt b 0 [v0, v1, v2, v3, v4, v5, v6, v7]) : W.cell? ⟨b, 0, none⟩ = some v0 ∧ W.cell? ⟨b, 1, none⟩ = some v1 ∧ W.cell? ⟨b, 2, none⟩ = some v2 ∧ W.cell? ⟨b, 3, none⟩ = some v3 ∧ W.cell? ⟨b, 4, none⟩ = some v4 ∧ W.cell? ⟨b, 5, none⟩ = some v5 ∧ W.cell? ⟨b, 6, none⟩ = some v6 ∧ W.cell? ⟨b, 7, none⟩ = some v7 := ⟨h 0 _ rfl, h 1 _ rfl, h 2 _ rfl, h 3 _ rfl, h 4 _ rfl, h 5 _ rfl, h 6 _ rfl, h 7 _ rfl⟩
theorem yB {W : World} {b : Nat} {v0 v1 v2 v3 v4 v5 v6 v7 v8 : Value} (h : W.rangeAt b 0 [v0, v1, v2, v3, v4, v5, v6, v7, v8]) : W.cell? ⟨b, 0, none⟩ = some v0 ∧ W.cell? ⟨b, 1, none⟩ = some v1 ∧ W.cell? ⟨b, 2, none⟩ = some v2 ∧ W.cell? ⟨b, 3, none⟩ = some v3 ∧ W.cell? ⟨b, 4, none⟩ = some v4 ∧ W.cell? ⟨b, 5, none⟩ = some v5 ∧ W.cell? ⟨b, 6, none⟩ = some v6 ∧ W.cell? ⟨b, 7, none⟩ = some v7 ∧ W.cell? ⟨b, 8, none⟩ = some v8 := ⟨h 0 _ rfl, h 1 _ rfl, h 2 _ rfl, h 3 _ rfl, h 4 _ rfl, h 5 _ rfl, h 6 _ rfl, h 7 _ rfl, h 8 _ rfl⟩
theorem yC {W : World} {b : Nat} {v0 v1 v2 v3 v4 v5 v6 v7 v8 v9 v10 v11 v12 v13 : Value} (h : W.rangeAt b 0 [v0, v1, v2, v3, v4, v5, v6, v7, v8, v9, v10, v11, v12, v13]) : W.cell? ⟨b, 0, none⟩ = some v0 ∧ W.cell? ⟨b, 1, none⟩ = some v1 ∧ W.cell? ⟨b, 2, none⟩ = some v2 ∧ W.cell? ⟨b, 3, none⟩ = some v3 ∧ W.cell? ⟨b, 4, none⟩ = some v4 ∧ W.cell? ⟨b, 5, none⟩ = some v5 ∧ W.cell? ⟨b, 6, none⟩ = some v6 ∧ W.cell? ⟨b, 7, none⟩ = some v7 ∧ W.cell? ⟨b, 8, none⟩ = some v8 ∧ W.cell? ⟨b, 9, none⟩ = some v9 ∧ W.cell? ⟨b, 10, none⟩ = some v10 ∧ W.cell? ⟨b, 11, none⟩ = some v11 ∧ W.cell? ⟨b, 12, none⟩ = some v12 ∧ W.cell? ⟨b, 13, none⟩ = some v13 := ⟨h 0 _ rfl, h 1 _ rfl, h 2 _ rfl, h 3 _ rfl, h 4 _ rfl, h 5 _ rfl, h 6 _ rfl, h 7 _ rfl, h 8 _ rfl, h 9 _ rfl, h 10 _ rfl, h 11 _ rfl, h 12 _ rfl, h 13 _ rfl⟩
abbrev yD := @List.getElem?_eq_some_iff
abbrev yE := @List.getElem?_eq_getElem
abbrev yF := @List.getElem?_replicate
abbrev yG := @Nat.lt_of_lt_of_le
abbrev yH := @World.block_lt_of_cell?
abbrev yI := @World.cell?_setCell_other
abbrev yJ := @World.cell?_setCell_same
abbrev yK := @Nat.le_trans
abbrev yL := @List.mem_of_getElem?
abbrev yM := @List.length_append
abbrev yN := @World.cell?_of_block
abbrev yO := @World.grownBy.refl
abbrev yP := @Below.heap_setCell
abbrev yQ := @List.take_succ_cons
abbrev yR := @List.drop_succ_cons
abbrev yS := @World.cell?_alloc_lt
abbrev yT := @List.getElem?_set_ne
abbrev yU := @World.rangeAt_setCells_same
abbrev yV := @Array.getElem?_eq_some_iff
abbrev yW := @List.take_of_length_le
abbrev yX := @List.drop_of_length_le
abbrev yY := @World.there_setCells
abbrev yZ := @List.drop_eq_getElem_cons
abbrev xa := @beq_eq_false_iff_ne
abbrev xb := @Bool.and_eq_true
abbrev xc := @decide_eq_true_eq
theorem yc {hj : Array Edge} {x : List Bool} (h : ∀ e ∈ hj, Region.binds .any e = true → x[e.on]? = some true) (j : Nat) (hm : (hj.toList.any fun e => e.on == j && Region.binds .any e) = true) : x[j]? = some true := by
  obtain ⟨e, he, hp⟩ := List.any_eq_true.1 hm
  rw [Bool.and_eq_true] at hp
  have z : e.on = j := by simpa using hp.1
  have := h e (by simpa using he) hp.2
  rw [z] at this
  exact this
def Rd (w:World) (v:Value) (l:List Int):Prop :=
 ∃ (a:Option Addr) (F:Nat),v = .slice a l.length F∧l.length ≤ 1073741824 ∧
  (l ≠ []→∃ b off,a = some (J b off)∧∀ i,i < l.length→w.cell? (J b (off + i)) = some (.int .u8 (l.getD i 0)))
theorem zQ {a b c:World} {row:Option Nat} (h:a.grownBy b row) (k:b.grownBy c row):a.grownBy c row :=
 ⟨k.os.trans h.os,k.tape.trans h.tape,k.output.trans h.output,yK h.size k.size,
  fun i hi xA=>(k.block i (yG hi h.size) xA).trans (h.block i hi xA)⟩
theorem gr_set (w:World) (a:Addr) (u:Value):w.grownBy (w.setCell a u) (some a.block) :=
 ⟨rfl,rfl,rfl,by simp [World.setCell],fun k _ xA=>yP _ _ _ _ (fun e=>xA (by rw [e]))⟩
theorem gr_drewN (w:World) (n:Nat) (row:Option Nat):w.grownBy (w.drewN n) row:=⟨rfl,rfl,rfl,Nat.le_refl _,fun _ _ _=>rfl⟩
theorem gr_below {w w':World} {g B:Nat} (h:w.grownBy w' (some g)) (hB:B ≤ g) (hs:B ≤ w.heap.size):Below B w w' :=
 ⟨h.os,h.tape,h.output,h.size,fun k hk=>h.block k (by omega) (by simp; omega)⟩
theorem zI {g a b:Nat} (h:a ≠ b):((J g a):Addr) ≠ (J g b):=by
 intro e; injection e; exact h (by assumption)
def Own (B:Nat) (w:World) (v:Value) (l:List Int):Prop :=
 ∃ g F,v = .slice (some (J g 0)) l.length F∧B ≤ g∧g < w.heap.size∧l.length ≤ 1073741824 ∧
  (∀ i,i < l.length→w.cell? (J g (0 + i)) = some (.int .u8 (l.getD i 0)))∧∀ i,i < l.length→w.frozen? (J g (0 + i)) = false
theorem Tryz.infoByte:(Tryz.prog.info? 5).map (fun i=>(i.zero,i.size,i.bytes)) = some (some (.int .u8 0),1,1):=by kernel_rfl
def OwnT (B:Nat) (w:World) (v:Value) (l:List Int):Prop :=
 ∃ g F xp t,v = .slice (some (J g 0)) l.length F∧B ≤ g∧w.heap[g]? = some (.cells xp t (0,0))∧l.length ≤ F∧F ≤ xp.size∧F ≤ maxLen∧l.length ≤ 1073741824 ∧
  xp.toList.take l.length = l.map (Value.int .u8)
theorem cell_head {w:World} {g t:Nat} {xp:Array Value} {l:List Int} (hg:w.heap[g]? = some (.cells xp t (0,0))) (ht:xp.toList.take l.length = l.map (Value.int .u8)) {i:Nat} (hi:i < l.length) :
  w.cell? (J g i) = some (.int .u8 (l.getD i 0)):=by
 rw [cell_of_row w g i xp t (0,0) hg]
 have z:(xp.toList.take l.length)[i]? = (l.map (Value.int .u8))[i]?:=by rw [ht]
 rw [List.getElem?_take,if_pos hi,List.getElem?_map,yE hi] at z
 simpa [hi] using z
theorem OwnT.own {B:Nat} {w:World} {v:Value} {l:List Int} (h:OwnT B w v l):Own B w v l:=by
 obtain ⟨g,F,xp,t,rfl,hb,hg,_,_,_,hl,ht⟩:=h
 exact ⟨g,F,rfl,hb,(yV.1 hg).1,hl,fun i hi=>by rw [Nat.zero_add]; exact cell_head hg ht hi,fun i _=>by simp [World.frozen?,hg]⟩
def Arr (za B:Nat) (w wr:World) (done:List Int):Prop :=
 ∃ xp t,wr.heap[B]? = some (.cells xp t (0,0))∧xp.size = za∧done.length ≤ za∧xp.toList.take done.length = done.map (Value.int .u8)∧Below B w wr
theorem Arr.below {za B:Nat} {w wr:World} {done:List Int} (h:Arr za B w wr done):Below B w wr:=by
 obtain ⟨_,_,_,_,_,_,h⟩:=h; exact h
theorem Arr.lt {za B:Nat} {w wr:World} {done:List Int} (h:Arr za B w wr done):B < wr.heap.size:=by
 obtain ⟨_,_,h,_⟩:=h; exact (yV.1 h).1
theorem Arr.some {za B:Nat} {w wr:World} {done:List Int} (h:Arr za B w wr done) {j:Nat} (L:j < za):∃ v,wr.cell? (J B j) = .some v:=by
 obtain ⟨xp,t,z,K,_⟩:=h
 exact ⟨_,(cell_of_row wr B j xp t (0,0) z).trans (Array.getElem?_eq_getElem (by omega))⟩
theorem cH {B:Nat} {a w:World} (h:Below B a w) (n:Nat):Below B a (w.drewN n):=h.trans ⟨rfl,rfl,rfl,Nat.le_refl _,fun _ _=>rfl⟩
def Bts (l:List Int):Prop:=∀ x ∈ l,0 ≤ x∧x ≤ 255
theorem bts_get {l:List Int} (h:Bts l) (k:Nat):0 ≤ l.getD k 0∧l.getD k 0 ≤ 255:=by
 by_cases hk:k < l.length
 ·have e:l.getD k 0 = l[k]:=by simp [hk]
  rw [e]; exact h _ (List.getElem_mem hk)
 ·simp [Nat.le_of_not_lt hk]
theorem rd_of_row {w:World} {a:Option Addr} {len F:Nat} {zs:List Int}
  (h:(a = none∧len = 0∧F = 0∧zs = []) ∨ ∃ x,a = some x∧len ≤ F∧F ≤ maxLen∧zs.length = F∧(∀ i,i < zs.length→w.cell? (x.add i) = some (.int .u8 (zs.getD i 0)))∧∀ n ∈ zs,(Lit.int .u8 n).wf = true)
  (hl:len ≤ 1073741824):(zs.take len).length = len∧Rd w (.slice a len F) (zs.take len)∧Bts (zs.take len):=by
 rcases h with ⟨rfl,rfl,rfl,rfl⟩ | ⟨x,rfl,z,_,hz,hc,hw⟩
 ·exact ⟨rfl,⟨none,0,rfl,by simp,fun h=>absurd rfl h⟩,fun x hx=>by simp at hx⟩
 ·have xD:(zs.take len).length = len:=by rw [List.length_take]; omega
  refine ⟨xD,⟨some x,F,by rw [xD],by omega,fun xA=>?_⟩,fun n hn=>bounds_u8 (hw n (List.mem_of_mem_take hn))⟩
  have hp:0 < len:=by
   rcases Nat.eq_zero_or_pos len with h0 | h0
   ·subst h0; simp at xA
   ·exact h0
  obtain ⟨b,off,spot⟩:=x
  have h0:=hc 0 (by omega)
  have hspot:spot = none:=by simpa [Addr.add] using World.cell?_spot h0
  subst hspot
  refine ⟨b,off,rfl,fun i hi=>?_⟩
  rw [xD] at hi
  have:=hc i (by omega)
  have e:((J b off):Addr).add i = (J b (off + i)):=by unfold Addr.add; split <;> simp_all
  rw [e] at this
  rw [this]
  have e2:(zs.take len).getD i 0 = zs.getD i 0:=by simp [hi]
  rw [e2]
theorem rd_grown {w w':World} {v:Value} {l:List Int} {B:Nat} (h:Rd w v l) (hg:w.grownBy w' (some B)) (hB:l ≠ []→v.ownBlock ≠ some B):Rd w' v l:=by
 obtain ⟨a,F,rfl,hl,hc⟩:=h
 refine ⟨a,F,rfl,hl,fun xA=>?_⟩
 obtain ⟨b,off,rfl,xn⟩:=hc xA
 have hb:some b ≠ some B:=fun e=>hB xA (by simpa [Value.ownBlock] using e)
 exact ⟨b,off,rfl,fun i hi=>(yN (a:=(J b (off + i))) (hg.block b (yH w _ (xn i hi)) hb)).trans (xn i hi)⟩
structure Src (B:Nat) (w:World) (v:Value) (l:List Int) (m:Int):Prop where
 rd:Rd w v l
 ne:l ≠ []→v.ownBlock ≠ some B
 bts:Bts l
 code:w.cell? ⟨B,0,none⟩ = some v
 cells:∃ at_ seed:Int,0 ≤ at_∧at_ ≤ m∧0 ≤ seed∧seed < 2147483648∧w.cell? ⟨B,1,none⟩ = some (.int .i64 at_)∧w.cell? ⟨B,2,none⟩ = some (.int .i64 seed)
 free1:w.frozen? ⟨B,1,none⟩ = false
 free2:w.frozen? ⟨B,2,none⟩ = false
def ax (B:Nat) (w:World) (v:Value) (l:List Int) (m:Int) (w':World):Prop:=Src B w' v l m∧w.grownBy w' (some B)
theorem bN {B:Nat} {w:World} {v:Value} {l:List Int} {m:Int} (h:Src B w v l m):ax B w v l m w:=⟨h,yO _ _⟩
theorem bu {B:Nat} {w:World} {v:Value} {l:List Int} {m n:Int} (h:Src B w v l m) (hn:m ≤ n):Src B w v l n:=by
 obtain ⟨z,K,h3,h4,⟨a,s,k0,k1,k2⟩,h6,h7⟩:=h
 exact ⟨z,K,h3,h4,⟨a,s,k0,by omega,k2⟩,h6,h7⟩
theorem dy {B:Nat} {w0 w:World} {v:Value} {l:List Int} {m:Int} (h:ax B w0 v l m w) (q:Nat):ax B w0 v l m (w.drewN q) :=
 ⟨⟨h.1.rd,h.1.ne,h.1.bts,h.1.code,h.1.cells,h.1.free1,h.1.free2⟩,zQ h.2 (gr_drewN _ q _)⟩
theorem src_at {B:Nat} {w0 w:World} {v:Value} {l:List Int} {m:Int} (h:ax B w0 v l m w) (a:Int) (h0:0 ≤ a) (ha:a ≤ m + 1):ax B w0 v l (m + 1) (w.setCell (J B 1) (H a)):=by
 obtain ⟨h,hg⟩:=h
 obtain ⟨at0,s0,_,_,k2,k3,z,K⟩:=h.cells
 have g:=gr_set w (J B 1) (H a)
 exact ⟨⟨rd_grown h.rd g h.ne,h.ne,h.bts,(yI _ _ _ _ (zI (by omega))).trans h.code,
  ⟨a,s0,h0,ha,k2,k3,yJ _ _ _ z,(yI _ _ _ _ (zI (by omega))).trans K⟩,
  (World.frozen?_setCell _ _ _ _).trans h.free1,(World.frozen?_setCell _ _ _ _).trans h.free2⟩,zQ hg g⟩
theorem src_seed {B:Nat} {w0 w:World} {v:Value} {l:List Int} {m:Int} (h:ax B w0 v l m w) (s:Int) (h0:0 ≤ s) (hs:s < 2147483648):ax B w0 v l m (w.setCell (J B 2) (H s)):=by
 obtain ⟨h,hg⟩:=h
 obtain ⟨at0,s0,k0,k1,_,_,z,K⟩:=h.cells
 have g:=gr_set w (J B 2) (H s)
 exact ⟨⟨rd_grown h.rd g h.ne,h.ne,h.bts,(yI _ _ _ _ (zI (by omega))).trans h.code,
  ⟨at0,s,k0,k1,h0,hs,(yI _ _ _ _ (zI (by omega))).trans z,yJ _ _ _ K⟩,
  (World.frozen?_setCell _ _ _ _).trans h.free1,(World.frozen?_setCell _ _ _ _).trans h.free2⟩,zQ hg g⟩
theorem src_step {B:Nat} {w w1:World} {v:Value} {l:List Int} {m at_ oE:Int} (h:Src B w v l m) (h0:0 ≤ at_) (ha:at_ ≤ m) (c1:w.cell? (J B 1) = some (H at_)) (c2:w.cell? (J B 2) = some (H oE))
  (hw:w.setCell (J B 1) (H (at_ + 1)) = w1) :
  ax B w v l (m + 1) w1∧w1.cell? (J B 0) = some v∧w1.cell? (J B 1) = some (H (at_ + 1))∧w1.cell? (J B 2) = some (H oE)∧w1.frozen? (J B 2) = false∧Rd w1 v l:=by
 subst hw
 have k:=src_at (bN h) (at_ + 1) (by omega) (by omega)
 exact ⟨k,k.1.code,yJ _ _ _ c1,(yI _ _ _ _ (zI (by omega))).trans c2,k.1.free2,k.1.rd⟩
theorem seed_step {B:Nat} {w0 w1 w2:World} {v:Value} {l:List Int} {m at_ s:Int} (h:ax B w0 v l m w1) (d1:w1.cell? (J B 1) = some (H at_)) (h0:0 ≤ s) (hs:s < 2147483648)
  (hw:w1.setCell (J B 2) (H s) = w2) :
  ax B w0 v l m w2∧w2.cell? (J B 0) = some v∧w2.cell? (J B 1) = some (H at_)∧w2.cell? (J B 2) = some (H s)∧Rd w2 v l:=by
 subst hw
 obtain ⟨_,_,_,_,_,_,_,k⟩:=h.1.cells
 have g:=src_seed h s h0 hs
 exact ⟨g,g.1.code,(yI _ _ _ _ (zI (by omega))).trans d1,yJ _ _ _ k,g.1.rd⟩
theorem byte_any (B:Nat) (v:Value) (l:List Int) (m:Int) (w:World) (h:Src B w v l m) (hm:m ≤ 1073741824) :
  Calls Tryz.prog 102 #[I B 0] w fun e w'=>∃ y:Int,e = yk (H y)∧0 ≤ y∧y ≤ 255∧ax B w v l (m + 1) w':=by
 have HS:=Q h
 obtain ⟨xK,xA,hbts,hcode,⟨at_,oE,ha0,ha,hs0,hs,c1,c2⟩,f1,f2⟩:=h
 have ux:=Q (fun w1 h=>src_step (w1:=w1) (M HS) ha0 ha c1 c2 h)
 obtain ⟨a,F,rfl,hl,hc⟩:=xK
 have HB:=Q hbts
 clear hbts hc c2 HS f2 xA
 go_enter Tryz.func102,Tryz.ntmps102
 go_wp2_with fail
 generalize hw1:w.setCell (J B 1) (H (at_ + 1)) = w1
 obtain ⟨hE,d0,d1,d2,g2,hrd1⟩:=M ux w1 hw1
 have HE:=Q hE
 obtain ⟨a',po,e',_,hc⟩:=hrd1
 simp only [Value.slice.injEq,true_and] at e'
 obtain ⟨rfl,rfl⟩:=e'
 clear hE ux hw1 c1 f1 hcode
 by_cases z:at_ + 1 ≤ l.length
 ·have hc':=hc (by intro e; subst e; simp at z; omega)
  obtain ⟨b,off,rfl,xn⟩:=hc'
  obtain ⟨k,rfl⟩:=Int.eq_ofNat_of_zero_le ha0
  have hck:=xn k (by omega)
  have hbk:=bts_get (M HB) k
  generalize hx:l.getD k 0 = x at *
  have HX:=Q hx
  clear hx
  obtain ⟨hx0,hx1⟩:=hbk
  have h1'':(k:Int) < l.length:=by omega
  clear hc xn
  go_quiet (fail)
  go_wp2_with fail
  have hd:Rd w1 (.slice (some (J b off)) l.length F) l:=(M HE).1.rd
  go_region
  all_goals
   generalize hw2:(w1.drewN _).setCell (J B 2) (H ((oE * 31 + x + 7) % 2147483648)) = w2
   obtain ⟨hE2,t0,t1,t2,hrd2⟩:=seed_step (dy (M HE) _) d1 (by omega) (by omega) hw2
   have oF:=Q hE2
   obtain ⟨a2,cap2,e2,_,hc2⟩:=hrd2
   obtain ⟨b2,off2,e3,hc3⟩:=hc2 (by intro e; subst e; simp at h1''; omega)
   simp only [Value.slice.injEq,true_and] at e2
   obtain ⟨rfl,rfl⟩:=e2
   simp only [Option.some.injEq,Addr.mk.injEq,and_true] at e3
   obtain ⟨rfl,rfl⟩:=e3
   have tck:=hc3 k (by omega)
   have hx:l.getD k 0 = x:=M HX
   rw [hx] at tck
   clear hE2 hc2 hc3 hw2 d0 d1 d2 hck hx hd
   go_wp2_with fail
   go_quiet (fail)
   go_wp2_with fail
   go_ret
   exact ⟨_,rfl,by omega,by omega,dy (M oF) _⟩
 ·have pv:(l.length:Int) < at_ + 1:=by omega
  clear hc
  by_cases K:3000 < at_ + 1
  ·go_quiet (fail)
   go_wp2_with fail
   go_ret
   exact ⟨_,rfl,by omega,by omega,dy (M HE) _⟩
  ·go_quiet (fail)
   go_wp2_with fail
   go_ret
   exact ⟨_,rfl,by omega,by omega,src_seed (dy (M HE) _) _ (by omega) (by omega)⟩
theorem aM (B:Nat) (v:Value) (l:List Int) (m n:Int) (w:World) (h:Src B w v l m) (hm:m ≤ 1000000000) (z:1 ≤ n) (K:n ≤ 1073741824) :
  Calls Tryz.prog 59 #[I B 0,H n] w fun e w'=>∃ y:Int,e = yk (H y)∧0 ≤ y∧y < n∧ax B w v l (m + 3) w':=by
 have HS:=Q h
 clear h
 by_cases k1:n ≤ 1
 ·go_enter Tryz.func59,Tryz.ntmps59
  go_wp2_with fail
  go_ret
  exact ⟨_,rfl,by omega,by omega,bN (bu (M HS) (by omega))⟩
 by_cases k2:n ≤ 256
 ·go_enter Tryz.func59,Tryz.ntmps59
  go_wp2_with fail
  refine (byte_any B v l m _ (M HS) (by omega)).mono ?_
  rintro e w1 ⟨y,rfl,js,kM,hE⟩
  have HE:=Q hE
  clear hE
  have xA:(n == 0) = false:=by simp; omega
  go_wp2_with fail
  go_ret
  exact ⟨_,rfl,by first | omega | exact Int.emod_nonneg _ (by omega),by first | omega | exact Int.emod_lt_of_pos _ (by omega),bu (M HE).1 (by omega),(M HE).2⟩
 go_enter Tryz.func59,Tryz.ntmps59
 go_wp2_with fail
 refine (byte_any B v l m _ (M HS) (by omega)).mono ?_
 rintro e w1 ⟨y1,rfl,js,kM,hE⟩
 have pd:=Q hE
 clear hE
 go_wp2_with fail
 refine (byte_any B v l _ _ (M pd).1 (by omega)).mono ?_
 rintro e w2 ⟨y2,rfl,uq,uw,hE⟩
 have oF:=Q hE
 clear hE
 go_wp2_with fail
 refine (byte_any B v l _ _ (M oF).1 (by omega)).mono ?_
 rintro e w3 ⟨y3,rfl,hu0,hu1,hE⟩
 have HE3:=Q hE
 clear hE
 have xA:(n == 0) = false:=by simp; omega
 go_wp2_with fail
 go_ret
 exact ⟨_,rfl,by first | omega | exact Int.emod_nonneg _ (by omega),by first | omega | exact Int.emod_lt_of_pos _ (by omega),bu (M HE3).1 (by omega),zQ (zQ (M pd).2 (M oF).2) (M HE3).2⟩
theorem chance_any (B:Nat) (v:Value) (l:List Int) (m n:Int) (w:World) (h:Src B w v l m) (hm:m ≤ 1000000000) (z:1 ≤ n) (K:n ≤ 1073741824) :
  Calls Tryz.prog 105 #[I B 0,H n] w fun e w'=>∃ b:Bool,e = yk (.bool b)∧ax B w v l (m + 3) w':=by
 have HS:=Q h
 clear h
 go_enter Tryz.func105,Tryz.ntmps105
 go_wp2_with fail
 refine (aM B v l m n _ (M HS) hm z K).mono ?_
 rintro e w1 ⟨y,rfl,js,kM,hE⟩
 have HE:=Q hE
 clear hE
 go_wp2_with fail
 go_ret
 exact ⟨_,rfl,M HE⟩
theorem bG (w:World) (o:Obj) (row:Option Nat):w.grownBy (w.alloc o) row :=
 ⟨rfl,rfl,rfl,by simp,fun k hk _=>((Below.refl _ w).alloc tg o).block k hk⟩
theorem src_lt {B:Nat} {w:World} {v:Value} {l:List Int} {m:Int} (h:Src B w v l m):B < w.heap.size:=yH w _ h.code
theorem cA {B:Nat} {w0 w:World} {v:Value} {l:List Int} {m:Int} (h:ax B w0 v l m w) (o:Obj):ax B w0 v l m (w.alloc o):=by
 have hB:=src_lt h.1
 obtain ⟨a,s,k1,k2,k3,k4,k5,k6⟩:=h.1.cells
 have e:∀ i,(w.alloc o).cell? (J B i) = w.cell? (J B i):=fun i=>yS _ _ (J B i) hB
 have f:∀ i,(w.alloc o).frozen? (J B i) = w.frozen? (J B i):=fun i=>World.frozen?_of_block (a:=(J B i)) ((bG w o none).block B hB (by simp))
 exact ⟨⟨rd_grown h.1.rd (bG w o _) h.1.ne,h.1.ne,h.1.bts,(e 0).trans h.1.code,⟨a,s,k1,k2,k3,k4,(e 1).trans k5,(e 2).trans k6⟩,(f 1).trans h.1.free1,(f 2).trans h.1.free2⟩,zQ h.2 (bG w o _)⟩
theorem rd_new {w:World} {v:Value} {l:List Int} (h:Rd w v l) (xA:l ≠ []):v.ownBlock ≠ some w.heap.size:=by
 obtain ⟨a,F,rfl,_,hc⟩:=h
 obtain ⟨b,off,rfl,xn⟩:=hc xA
 have:=yH w _ (xn 0 (List.length_pos_iff.2 xA))
 simp only [Value.ownBlock,ne_eq,Option.some.injEq]
 intro e
 simp only at this
 omega
theorem source_any (v:Value) (l:List Int) (w:World) (h:Rd w v l) (hb:Bts l) :
  Calls Tryz.prog 29 #[v] w fun e w'=>e = yk (ym w 0)∧Src w.heap.size w' v l 0∧yl w w':=by
 have HR:=Q h
 have HB:=Q hb
 have HV:=Q (fun xA=>rd_new h xA)
 obtain ⟨a,F,rfl,hl,_⟩:=h
 clear hb
 go_enter Tryz.func29,Tryz.ntmps29
 go_wp2_with fail
 go_ret
 refine ⟨rfl,⟨rd_grown (M HR) (bG w _ _) (M HV),M HV,M HB,cell_of_row _ _ _ _ _ (0,0) (heap_alloc_new w _),⟨0,(l.length:Int) % 1000,by omega,by omega,by omega,by omega,cell_of_row _ _ _ _ _ (0,0) (heap_alloc_new w _),cell_of_row _ _ _ _ _ (0,0) (heap_alloc_new w _)⟩,?_,?_⟩,(Below.refl _ w).alloc tg _⟩
 all_goals
  unfold World.frozen?
  rw [heap_alloc_new]
  simp
theorem own_below_grown {w w1 w':World} {B:Nat} (z:yl w w1) (hB:w.heap.size ≤ B) (K:w1.grownBy w' (some B)):yl w w' :=
 z.trans (gr_below K hB z.size)
theorem odd_row (k:Nat) (w:World) (t:TypeId) (h:k < 12) :
  ∃ h1:Int,-9223372036854775808 ≤ h1∧h1 ≤ 9223372036854775807∧(w.alloc (.cells #[H 0,H (-1),H 1,H 2,H 63,H 64,H 65,H 4096,H 4097,H 9223372036854775807,H (-9223372036854775808),H 30] t)).cell? (yn w k) = some (H h1):=by
 rcases (show k = 0 ∨ k = 1 ∨ k = 2 ∨ k = 3 ∨ k = 4 ∨ k = 5 ∨ k = 6 ∨ k = 7 ∨ k = 8 ∨ k = 9 ∨ k = 10 ∨ k = 11 by omega) with rfl | rfl | rfl | rfl | rfl | rfl | rfl | rfl | rfl | rfl | rfl | rfl
 all_goals exact ⟨_,by decide,by decide,cell_of_row _ _ _ _ _ (0,0) (heap_alloc_new w _)⟩
theorem odd_any (B:Nat) (v:Value) (l:List Int) (m:Int) (w:World) (h:Src B w v l m) (hm:m ≤ 1000000000) :
  Calls Tryz.prog 162 #[I B 0] w fun e w'=>∃ y:Int,e = yk (H y)∧-9223372036854775808 ≤ y∧y ≤ 9223372036854775807∧ax B w v l (m + 3) w':=by
 have HS:=Q h
 have hB:=src_lt h
 clear h
 go_enter Tryz.func162,Tryz.ntmps162
 go_wp2_with fail
 refine (aM B v l m 12 _ (cA (bN (M HS)) _).1 hm (by omega) (by omega)).mono ?_
 rintro e w1 ⟨y,rfl,js,kM,hE⟩
 obtain ⟨k,rfl⟩:=Int.eq_ofNat_of_zero_le js
 obtain ⟨h1,uq,uw,hz⟩:=odd_row k w 3 (by omega)
 have HE:=Q (show ax B w v l (m + 3) w1 from ⟨hE.1,zQ (bG w _ _) hE.2⟩)
 have hc:=hE.2.cell hz (by simp; omega)
 clear hE hz
 go_wp2_with fail
 go_ret
 exact ⟨_,rfl,uq,uw,M HE⟩
theorem number_drawn (B:Nat) (v:Value) (l:List Int) (m:Int) (w:World) (h:Src B w v l m) (hm:m ≤ 900000000) :
  Calls Tryz.prog 141 #[I B 0] w fun e w'=>∃ y:Int,e = yk (H y)∧-9223372036854775808 ≤ y∧y ≤ 9223372036854775807∧ax B w v l (m + 6) w':=by
 have HS:=Q h
 clear h
 go_enter Tryz.func141,Tryz.ntmps141
 go_wp2_with fail
 refine (chance_any B v l m 4 _ (M HS) (by omega) (by omega) (by omega)).mono ?_
 rintro e w1 ⟨b,rfl,hE⟩
 have HE:=Q hE
 clear hE
 cases b
 ·go_wp2_with fail
  refine (aM B v l _ 400 _ (M HE).1 (by omega) (by omega) (by omega)).mono ?_
  rintro e w2 ⟨y,rfl,js,kM,hE2⟩
  have oF:=Q hE2
  clear hE2
  go_wp2_with fail
  go_ret
  exact ⟨_,rfl,by omega,by omega,bu (M oF).1 (by omega),zQ (M HE).2 (M oF).2⟩
 ·go_wp2_with fail
  refine (odd_any B v l _ _ (M HE).1 (by omega)).mono ?_
  rintro e w2 ⟨y,rfl,js,kM,hE2⟩
  have oF:=Q hE2
  clear hE2
  go_wp2_with fail
  go_ret
  exact ⟨_,rfl,js,kM,bu (M oF).1 (by omega),zQ (M HE).2 (M oF).2⟩
def nanB (x:Nat):Bool:=FloatKind.f64.format.order x x != some Ordering.eq
theorem datum_self (d:Ieee.Datum) (h:¬ d.isNaN = true):d.order d = some Ordering.eq:=by
 cases d with
 | nan s f=>simp [Ieee.Datum.isNaN] at h
 | infinity s=>cases s <;> rfl
 | number s m i=>simp [Ieee.Datum.order,Std.ReflCmp.compare_self]
theorem fbits (x:Nat) (w:World):(callFunc 168 #[yh x]).run Tryz.prog w = .ok (.value (.int .u64 x)) w:=by
 rw [run_callFunc_extern (e:=Extern.MathFloatBits.float64bits) Tryz.func168 (by kernel_rfl) (by kernel_rfl) (by kernel_rfl) (by kernel_rfl)]
 rfl
theorem isNaN_any (x:Nat) (w:World) :
  Calls Tryz.prog 167 #[yh x] w fun e w'=>e = yk (.bool (nanB x))∧w' = w:=by
 go_enter Tryz.func167,Tryz.ntmps167
 go_wp2
 go_ret
 exact ⟨rfl,rfl⟩
theorem sub_one (W:World):(binOp .sub 41 (yh 4607182418800017408) (yh 4607182418800017408)).run Tryz.prog W = .ok (yh 0) W:=by
 have h:FloatKind.f64.format.sub 4607182418800017408 4607182418800017408 = some 0:=by kernel_rfl
 simp [binOp,Op.floatArith,h]
theorem neg_zero (W:World):(Op.unary .neg (yh 0)).run Tryz.prog W = .ok (yh 9223372036854775808) W:=by
 kernel_rfl
theorem one_zero (W:World):(binOp .quo 41 (yh 4607182418800017408) (yh 0)).run Tryz.prog W = .ok (yh 9218868437227405312) W:=by
 have h:FloatKind.f64.format.div 4607182418800017408 0 = some 9218868437227405312:=by kernel_rfl
 simp [binOp,Op.floatArith,h]
theorem less_zero (W:World):(binOp .quo 41 (yh 13830554455654793216) (yh 0)).run Tryz.prog W = .ok (yh 18442240474082181120) W:=by
 have h:FloatKind.f64.format.div 13830554455654793216 0 = some 18442240474082181120:=by kernel_rfl
 simp [binOp,Op.floatArith,h]
def nanOf (W:World):Nat:=(Question.nanBits .f64 0 0).cut (W.tape W.drawn (.nanBits .f64 0 0))
theorem zero_zero (W:World):(binOp .quo 41 (yh 0) (yh 0)).run Tryz.prog W = .ok (yh (nanOf W)) W.drew:=by
 have h:FloatKind.f64.format.div 0 0 = none:=by kernel_rfl
 simp [binOp,Op.floatArith,h,nanOf,choose]
 rfl
theorem zero_any (w:World):Calls Tryz.prog 163 #[] w fun e w'=>e = yk (yh 0)∧w' = w:=by
 have h:=sub_one
 go_enter Tryz.func163,Tryz.ntmps163
 go_wp2_with fail
 go_ret
 exact ⟨rfl,rfl⟩
theorem size_any (B:Nat) (v:Value) (l:List Int) (m most:Int) (w:World) (h:Src B w v l m) (h0:1 ≤ most) (z:most ≤ 1000000) :
  Calls Tryz.prog 60 #[I B 0,H most] w fun e w'=>∃ y:Int,e = yk (H y)∧1 ≤ y∧y ≤ most∧w' = w:=by
 have c:=h.code
 obtain ⟨a,F,rfl,hl,_⟩:=h.rd
 clear h
 go_enter Tryz.func60,Tryz.ntmps60
 go_wp2_with fail
 all_goals go_ret
 all_goals exact ⟨_,rfl,by omega,by omega,rfl⟩
theorem frombitsS (n:Int) (w:World):(callFunc 169 #[.int .u64 n]).run Tryz.prog w = .ok (.value (yh n.toNat)) w:=by
 rw [run_callFunc_extern (e:=Extern.MathFloatBits.float64frombits) Tryz.func169 (by kernel_rfl) (by kernel_rfl) (by kernel_rfl) (by kernel_rfl)]
 rfl
end Go.Proofs.YtbakanofkghmiaaGreat
