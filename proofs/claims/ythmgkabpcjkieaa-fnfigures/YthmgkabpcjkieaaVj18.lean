/-
  An order taken out of a row, by the program's library: proved by walking the function.
-/
import Derived.Test.YthmgkabpcjkieaaVj17
import Derived.Laws.CopyOwn
import Derived.WalkMore
namespace Go.Proofs.Ythmgkabpcjkieaa
open Go.RowKit
set_option linter.unusedVariables false

end Go.Proofs.Ythmgkabpcjkieaa
namespace Go.Proofs.Ythmgkabpcjkieaa
open Go.RowKit
set_option linter.unusedVariables false

theorem flat_set {α : Type} {f : α → List Value} {sz : Nat} (hf : ∀ c, (f c).length = sz) : ∀ (l : List α) (i j : Nat) (c c' : α) (u : Value), l[i]? = some c → j < sz → f c' = (f c).set j u → (l.flatMap f).set (i * sz + j) u = (l.set i c').flatMap f
  | [], _, _, _, _, _, h, _, _ => by simp at h
  | a :: l, 0, j, c, c', u, h, hj, hc => by
    simp at h; subst h
    rw [List.set_cons_zero, List.flatMap_cons, List.flatMap_cons, hc, Nat.zero_mul, Nat.zero_add, List.set_append_left _ _ (by rw [hf]; exact hj)]
  | a :: l, i + 1, j, c, c', u, h, hj, hc => by
    simp at h
    rw [List.set_cons_succ, List.flatMap_cons, List.flatMap_cons, ← flat_set hf l i j c c' u h hj hc, List.set_append_right _ _ (by rw [hf, Nat.add_mul]; omega), hf]
    congr 2
    rw [Nat.add_mul]; omega
end Go.Proofs.Ythmgkabpcjkieaa
namespace Go.Proofs.Ythmgkabpcjkieaa
open Go.RowKit
set_option linter.unusedVariables false

/-- What is left of a row behind a trade with the k-th order. -/
def hitAt (l : List Od) (k : Nat) (c : Od) (qty : Int) : List Od := if c.left = qty then l.take k ++ l.drop (k + 1) else l.set k { c with left := c.left - qty }
theorem kind_set (w : World) (p o : Nat) (u : Value) {cur : Array Value} {t : TypeId} {x : Nat × Nat} (h : w.heap[p]? = some (.cells cur t x)) : ∃ cur', (w.setCell ⟨p, o, none⟩ u).heap[p]? = some (.cells cur' t x) := by
  simp [World.setCell, Array.getElem?_modify, h]
/-- A row stays as it is when another block is written. -/
theorem row_set {W : World} {B e sz n : Nat} {v : Value} {xs : List Value} (h : W.ownsRow B e sz v n xs) {b : Nat} (hb : some b ≠ v.ownBlock) (o : Nat) (u : Value) : (W.setCell ⟨b, o, none⟩ u).ownsRow B e sz v n xs :=
  h.kept (row := some b) ⟨rfl, rfl, rfl, by simp [World.setCell], fun k _ hk => Below.heap_setCell _ _ _ _ (fun e => hk (by rw [e]))⟩ (.inr (Ne.symm hb))
theorem oRow_below {W W' : World} {B : Nat} {v : Value} {l : List Od} (h : ORow W B v l) (hb : Below W.heap.size W W') : ORow W' B v l :=
  World.ownsRow.kept h (row := none) (below_gr hb (Nat.le_refl _)) (by cases v.ownBlock <;> simp)
theorem oRow_left {W : World} {B g n cap k : Nat} {l : List Od} {c : Od} (h : ORow W B (.slice (some ⟨g, 0, none⟩) n cap) l) (hn : l.length = n) (hk : l[k]? = some c) (x : Int) :
    ORow (W.setCell ⟨g, k * 6 + 3, none⟩ (.int .i64 x)) B (.slice (some ⟨g, 0, none⟩) n cap) (l.set k { c with left := x }) ∧ W.grownBy (W.setCell ⟨g, k * 6 + 3, none⟩ (.int .i64 x)) (some g) := by
  subst hn
  have s := World.ownsRow.stored h (k * 6 + 3) (.int .i64 x)
  refine ⟨?_, s.2⟩
  have e := flat_set Od.len l k 3 c { c with left := x } (.int .i64 x) hk (by omega) rfl
  show World.ownsRow _ _ _ _ _ (l.set k _).length _
  rw [List.length_set, ← e]; exact s.1
end Go.Proofs.Ythmgkabpcjkieaa
namespace Go.Proofs.Ythmgkabpcjkieaa
open Go.RowKit
set_option linter.unusedVariables false

section
variable {B0 : World → Prop} {W W' : World} {k h : Nat} {D : Prop → Prop → World → Nat → Value → Prop} {x : List Bool} {f : Nat → Value}
end
end Go.Proofs.Ythmgkabpcjkieaa
namespace Go.Proofs.Ythmgkabpcjkieaa
open Go.RowKit
set_option linter.unusedVariables false

/-- A trade as an event. -/
def trE (tid fid qty ftk : Int) : Ev := ⟨3, zCm, tid, fid, qty, ftk, 0⟩
abbrev ERow (W : World) (B : Nat) (v : Value) (l : List Ev) : Prop := W.ownsRow B 97 14 v l.length (l.flatMap Ev.vs)
theorem infoEv : (Try.prog.info? 97).map (fun i => (i.zero, i.size, i.bytes)) = some (some (.agg #[.int .i64 0, .int .i64 0, .int .i64 0, .int .i64 0, .int .i64 0, .int .i64 0, .int .i64 0, .float .f64 0, .string ⟨#[]⟩, .int .i64 0, .int .i64 0, .int .i64 0, .int .i64 0, .int .i64 0]), 14, 120) := by kernel_rfl
theorem one_ev (e : Ev) : ∀ u ∈ e.vs, u.oneCell' = true := by
  intro u hu
  simp [Ev.vs] at hu
  rcases hu with rfl | rfl | rfl | rfl | rfl | rfl | rfl | rfl | rfl | rfl | rfl | rfl | rfl | rfl <;> rfl
theorem eRow_below {W W' : World} {B : Nat} {v : Value} {l : List Ev} (h : ERow W B v l) (hb : Below W.heap.size W W') : ERow W' B v l :=
  World.ownsRow.kept h (row := none) (below_gr hb (Nat.le_refl _)) (by cases v.ownBlock <;> simp)
theorem eRow_set {W : World} {B : Nat} {v : Value} {l : List Ev} (h : ERow W B v l) {b : Nat} (hb : b < B) (o : Nat) (u : Value) : ERow (W.setCell ⟨b, o, none⟩ u) B v l :=
  ownsRow_setCell_below h (a := ⟨b, o, none⟩) hb u
section
variable {mb fb B : Nat} {W0 V V' : World} {vt : Value} {ts : List Ev} {tid fid qty ftk : Int} {p q : Prop}
end
end Go.Proofs.Ythmgkabpcjkieaa
namespace Go.Proofs.Ythmgkabpcjkieaa
open Go.RowKit
set_option linter.unusedVariables false

/-- Memory but for a box and what was made from B on. -/
structure KeptBut (mb B : Nat) (w w' : World) : Prop where
  os : w'.os = w.os
  tape : w'.tape = w.tape
  output : w'.output = w.output
  size : w.heap.size ≤ w'.heap.size
  block : ∀ k, k < B → k ≠ mb → w'.heap[k]? = w.heap[k]?
/-- A box is no row of another kind. -/
theorem box_apart {B e sz n b : Nat} {T : TypeId} {v : Value} {xs : List Value} {w : World} (h : w.ownsRow B e sz v n xs) (hb : ∃ cur, w.heap[b]? = some (.cells cur T (0, 0))) (hne : T ≠ e) : some b ≠ v.ownBlock := by
  obtain ⟨cb, hb⟩ := hb
  rcases h.2 with ⟨rfl, _⟩ | ⟨g, cap, cur, rfl, _, hgg, rest⟩
  · simp [Value.ownBlock]
  · intro e0
    simp only [Value.ownBlock, Option.some.injEq] at e0
    subst e0
    rw [hb] at hgg
    simp only [Option.some.injEq, Obj.cells.injEq] at hgg
    exact hne hgg.2.1
/-- Rows of two kinds never share a block. -/
theorem rows_apart {B B' e e' sz sz' n n' : Nat} {v v' : Value} {xs xs' : List Value} {w : World} (h : w.ownsRow B e sz v n xs) (h' : w.ownsRow B' e' sz' v' n' xs') (hne : e ≠ e') : v.ownBlock = none ∨ v.ownBlock ≠ v'.ownBlock := by
  rcases h.2 with ⟨rfl, _⟩ | ⟨g, cap, cur, rfl, hb, hgg, rest⟩
  · exact .inl rfl
  · refine .inr ?_
    rcases h'.2 with ⟨rfl, _⟩ | ⟨g', cap', cur', rfl, hb', hgg', rest'⟩
    · simp [Value.ownBlock]
    · intro e0
      simp only [Value.ownBlock, Option.some.injEq] at e0
      subst e0
      rw [hgg] at hgg'
      simp only [Option.some.injEq, Obj.cells.injEq] at hgg'
      exact hne hgg'.2.1
end Go.Proofs.Ythmgkabpcjkieaa
namespace Go.Proofs.Ythmgkabpcjkieaa
open Go.RowKit
set_option linter.unusedVariables false

theorem one_od (o : Od) : ∀ u ∈ o.vs, u.oneCell' = true := by
  intro u hu
  simp [Od.vs] at hu
  rcases hu with rfl | rfl | rfl | rfl | rfl | rfl <;> rfl
section
variable {mb B : Nat} {W0 V V' : World} {vq : Value} {l : List Od} {t : Od} {p q : Prop}
end
end Go.Proofs.Ythmgkabpcjkieaa
namespace Go.Proofs.Ythmgkabpcjkieaa
open Go.RowKit
set_option linter.unusedVariables false

/-- Whether a list of orders is more than a book holds. -/
def fullB (l : List Od) : Bool := if 20 < l.length then true else decide (8 < ((lvsOf true 1 (ofSide l 1)).length : Int) + (lvsOf false 2 (ofSide l 2)).length)
end Go.Proofs.Ythmgkabpcjkieaa
namespace Go.Proofs.Ythmgkabpcjkieaa
open Go.RowKit
set_option linter.unusedVariables false

/-- The order that is first on a side. -/
def frontO (l : List Od) (sd : Int) : Option Od := (quOf (decide (sd = 1)) (ofSide l sd)).head?
/-- The trades of an order, with so many rounds at most: the orders left, what is left of it, the trades. -/
def matL (c : Cm) (id : Int) : Nat → List Od → Int → List Ev → List Od × Int × List Ev
  | 0, l, left, ts => (l, left, ts)
  | n + 1, l, left, ts =>
    if 0 < left then
      match frontO l (othS c.s) with
      | none => (l, left, ts)
      | some o => if meetO c o = true then matL c id n (hitAt l (plc l o.id).toNat o (min left o.left)) (left - min left o.left) (ts ++ [trE id o.id (min left o.left) o.ticks]) else (l, left, ts)
    else (l, left, ts)
/-- Orders as a book has them: not too many, quantities in their bounds, Ids rising. -/
structure GoodL (l : List Od) : Prop where
  len : l.length ≤ 20
  left : ∀ o ∈ l, 0 < o.left ∧ o.left ≤ 1000000
  rise : Rising l
theorem front_mem {l : List Od} {sd : Int} {o : Od} (h : frontO l sd = some o) : o ∈ l ∧ o.side = sd := by
  have h1 : o ∈ quOf (decide (sd = 1)) (ofSide l sd) := List.mem_of_head? h
  obtain ⟨k, _, h2⟩ := List.mem_flatMap.1 h1
  have h3 := (List.mem_filter.1 h2).1
  have h4 := List.mem_filter.1 h3
  exact ⟨h4.1, by simpa using h4.2⟩
theorem rise_id {l : List Od} (hr : Rising l) {i k : Nat} {o o' : Od} (hi : l[i]? = some o') (hk : l[k]? = some o) (he : o'.id = o.id) : i = k := by
  obtain ⟨h1, rfl⟩ := List.getElem?_eq_some_iff.1 hi
  obtain ⟨h2, rfl⟩ := List.getElem?_eq_some_iff.1 hk
  rcases Nat.lt_trichotomy i k with h | h | h
  · have := List.pairwise_iff_getElem.1 hr i k h1 h2 h; omega
  · exact h
  · have := List.pairwise_iff_getElem.1 hr k i h2 h1 h; omega
theorem plc_at {l : List Od} (hr : Rising l) {k : Nat} {o : Od} (hk : l[k]? = some o) : plc l o.id = k := by
  rcases plcF_spec o.id l 0 with ⟨_, h2⟩ | ⟨i, o', h1, h2, h3, _⟩
  · exact absurd rfl (h2 o (List.mem_of_getElem? hk))
  · rw [plc, h1, rise_id hr h2 hk h3]; congr 1; omega
theorem good_hit {l : List Od} (h : GoodL l) {k : Nat} {o : Od} (hk : l[k]? = some o) {qty : Int} (h0 : 0 ≤ qty) (h1 : qty ≤ o.left) : GoodL (hitAt l k o qty) ∧ ((hitAt l k o qty).length + 1 = l.length ∨ (qty < o.left ∧ (hitAt l k o qty).length = l.length)) := by
  have hkl := (List.getElem?_eq_some_iff.1 hk).1
  by_cases he : o.left = qty
  · have e : hitAt l k o qty = l.take k ++ l.drop (k + 1) := if_pos he
    rw [e]
    have hs : (l.take k ++ l.drop (k + 1)).Sublist l := by
      have : (l.take k ++ l.drop (k + 1)).Sublist (l.take k ++ l.drop k) := List.Sublist.append (List.Sublist.refl _) (by rw [drop_get hk]; exact List.sublist_cons_self _ _)
      rwa [List.take_append_drop] at this
    refine ⟨⟨Nat.le_trans hs.length_le h.len, fun o' ho' => h.left o' (hs.subset ho'), h.rise.sublist hs⟩, .inl ?_⟩
    simp; omega
  · have e : hitAt l k o qty = l.set k { o with left := o.left - qty } := if_neg he
    rw [e]
    have ho := h.left o (List.mem_of_getElem? hk)
    refine ⟨⟨by rw [List.length_set]; exact h.len, fun o' ho' => ?_, ?_⟩, .inr ⟨by omega, by rw [List.length_set]⟩⟩
    · rcases List.mem_or_eq_of_mem_set ho' with h2 | rfl
      · exact h.left o' h2
      · simp only; omega
    · refine List.pairwise_iff_getElem.2 fun i j hi hj hij => ?_
      rw [List.length_set] at hi hj
      have hp := List.pairwise_iff_getElem.1 h.rise i j hi hj hij
      have hko : l[k] = o := by have := (List.getElem?_eq_some_iff.1 hk).2; exact this
      rw [List.getElem_set, List.getElem_set]
      split <;> split
      · omega
      · next h2 _ => subst h2; rw [hko] at hp; exact hp
      · next _ h2 => subst h2; rw [hko] at hp; exact hp
      · exact hp
/-- Where the trades stand: what is to come gives the same end. -/
structure MI (c : Cm) (id : Int) (F : List Od × Int × List Ev) (l : List Od) (left : Int) (ts : List Ev) : Prop where
  good : GoodL l
  l0 : 0 ≤ left
  l1 : left ≤ 1000000
  few : ts.length ≤ 21
  some : 0 < left → ts.length + l.length ≤ 20
  goal : ∃ n, matL c id n l left ts = F ∧ (0 < left → l.length < n)
theorem matL_end {c : Cm} {id : Int} {n : Nat} {l : List Od} {left : Int} {ts : List Ev} (h : left ≤ 0) : matL c id n l left ts = (l, left, ts) := by
  cases n with
  | zero => rfl
  | succ n => rw [matL, if_neg (by omega)]
theorem mi_start {c : Cm} {id : Int} {l : List Od} {left : Int} (h : GoodL l) (h0 : 0 ≤ left) (h1 : left ≤ 1000000) : MI c id (matL c id 21 l left []) l left [] :=
  ⟨h, h0, h1, by simp, fun _ => by simpa using h.len, 21, rfl, fun _ => by have := h.len; omega⟩
theorem mi_none {c : Cm} {id : Int} {F : List Od × Int × List Ev} {l : List Od} {left : Int} {ts : List Ev} (h : MI c id F l left ts) (hf : frontO l (othS c.s) = none) : F = (l, left, ts) := by
  obtain ⟨n, rfl, hn⟩ := h.goal
  by_cases h0 : 0 < left
  · obtain ⟨m, rfl⟩ : ∃ m, n = m + 1 := ⟨n - 1, by have := hn h0; omega⟩
    rw [matL, if_pos h0, hf]
  · exact matL_end (by omega)
theorem mi_stop {c : Cm} {id : Int} {F : List Od × Int × List Ev} {l : List Od} {left : Int} {ts : List Ev} (h : MI c id F l left ts) {o : Od} (hf : frontO l (othS c.s) = some o) (hm : meetO c o = false) : F = (l, left, ts) := by
  obtain ⟨n, rfl, hn⟩ := h.goal
  by_cases h0 : 0 < left
  · obtain ⟨m, rfl⟩ : ∃ m, n = m + 1 := ⟨n - 1, by have := hn h0; omega⟩
    rw [matL, if_pos h0, hf]
    simp only [hm]
    rw [if_neg (by simp)]
  · exact matL_end (by omega)
theorem mi_done {c : Cm} {id : Int} {F : List Od × Int × List Ev} {l : List Od} {left : Int} {ts : List Ev} (h : MI c id F l left ts) (h0 : ¬ 0 < left) : F = (l, left, ts) := by
  obtain ⟨n, rfl, hn⟩ := h.goal
  exact matL_end (by omega)
theorem mi_step {c : Cm} {id : Int} {F : List Od × Int × List Ev} {l : List Od} {left : Int} {ts : List Ev} (h : MI c id F l left ts) (h0 : 0 < left) {o : Od} (hf : frontO l (othS c.s) = some o) (hm : meetO c o = true) :
    ∃ k, plc l o.id = (k : Nat) ∧ l[k]? = some o ∧ MI c id F (hitAt l k o (min left o.left)) (left - min left o.left) (ts ++ [trE id o.id (min left o.left) o.ticks]) ∧ 2 * (hitAt l k o (min left o.left)).length + (if 0 < left - min left o.left then 1 else 0) < 2 * l.length + 1 := by
  obtain ⟨hmem, _⟩ := front_mem hf
  obtain ⟨k, hk⟩ := List.getElem?_of_mem hmem
  have hp := plc_at h.good.rise hk
  have ho := h.good.left o hmem
  have h1 := h.l1
  have hs := h.some h0
  obtain ⟨hg, hl⟩ := good_hit h.good hk (qty := min left o.left) (by omega) (by omega)
  obtain ⟨n, hF, hn⟩ := h.goal
  obtain ⟨m, rfl⟩ : ∃ m, n = m + 1 := ⟨n - 1, by have := hn h0; omega⟩
  have hn := hn h0
  rw [matL, if_pos h0, hf] at hF
  simp only [hm, if_true] at hF
  rw [hp, Int.toNat_natCast] at hF
  refine ⟨k, hp, hk, ⟨hg, by omega, by omega, ?_, fun hlt => ?_, m, hF, fun hlt => ?_⟩, ?_⟩
  · rw [List.length_append]; simp only [List.length_cons, List.length_nil]; omega
  · rw [List.length_append]; simp only [List.length_cons, List.length_nil]; omega
  · omega
  · split <;> omega
end Go.Proofs.Ythmgkabpcjkieaa
namespace Go.Proofs.Ythmgkabpcjkieaa
open Go.RowKit
set_option linter.unusedVariables false

section
variable {base W W' : World} {F : (Nat → Value) → Act} {k : Nat} {D : Prop → World → Nat → Value → Prop} {x : List Bool} {f : Nat → Value}
theorem rgx_grow (hb : Below base.heap.size base W) (h : ∀ j, x[j]? = some true → D (x[k]? = some true) W j (f j)) (hg : Below W.heap.size W W') {i : Nat} (hik : i ≠ k) (hm : ∀ j v, D (x[k]? = some true) W j v → D (x[k]? = some true) W' j v) {v : Value} (hv : D (x[k]? = some true) W' i v) :
    Below base.heap.size base W' ∧ ∀ j, (x.set i true)[j]? = some true → D ((x.set i true)[k]? = some true) W' j (upd f i v j) := by
  refine ⟨hb.trans (hg.mono hb.size), fun j hj => ?_⟩
  rw [List.getElem?_set_ne hik]
  by_cases hji : j = i
  · subst hji; rw [upd_same]; exact hv
  · rw [upd_ne _ _ hji]
    rw [List.getElem?_set_ne (fun e => hji e.symm)] at hj
    exact hm _ _ (h j hj)
theorem rgx_last (hb : Below base.heap.size base W') (h : ∀ j, x[j]? = some true → D (x[k]? = some true) W j (f j)) (hk : x[k]? = some false) (hm : ∀ j, j ≠ k → x[j]? = some true → D False W j (f j) → D True W' j (f j)) {v : Value} (hv : D True W' k v) :
    Below base.heap.size base W' ∧ ∀ j, (x.set k true)[j]? = some true → D ((x.set k true)[k]? = some true) W' j (upd f k v j) := by
  have e : ((x.set k true)[k]? = some true) = True := by
    rw [List.getElem?_set_self (List.getElem?_eq_some_iff.1 hk).1]; simp
  refine ⟨hb, fun j hj => ?_⟩
  rw [e]
  by_cases hji : j = k
  · subst hji; rw [upd_same]; exact hv
  · rw [upd_ne _ _ hji]
    rw [List.getElem?_set_ne (fun e => hji e.symm)] at hj
    refine hm j hji hj ?_
    have := h j hj
    rw [hk] at this
    simpa using this
end
section
variable {b2 B : Nat} {base V V' : World} {next : Int} {a : Option Addr} {cap : Nat} {l : List Od} {c : Cm} {p : Prop}
end
section
variable {mb b3 : Nat} {base V V' : World} {BV : Value} {s sd : Int} {l : List Od} {x : Od} {fb : Bool} {p : Prop}
end
/-- The edges of a region that bind go back. -/
def backC : Nat → List Oper → Bool
  | _, [] => true
  | i, o :: r => o.after.toList.all (fun e => !Region.binds .any e || decide (e.on < i)) && backC (i + 1) r
theorem backC_spec : ∀ (l : List Oper) (n : Nat), backC n l = true → ∀ (i : Nat) (o : Oper), l[i]? = some o → ∀ e ∈ o.after, Region.binds .any e = true → e.on < n + i
  | [], _, _, i, o, h, _, _, _ => by simp at h
  | a :: r, n, hb, 0, o, h, e, he, hbd => by
    simp at h; subst h
    simp only [backC, Bool.and_eq_true, List.all_eq_true] at hb
    have := hb.1 e (by simpa using he)
    rw [hbd] at this
    simpa using this
  | a :: r, n, hb, i + 1, o, h, e, he, hbd => by
    simp only [backC, Bool.and_eq_true] at hb
    have := backC_spec r (n + 1) hb.2 i o (by simpa using h) e he hbd
    omega
theorem ready_allC {l : List Oper} {x : List Bool} (h : Region.ready .any l.toArray x.toArray = []) (hx : x.length = l.length) (hb : backC 0 l = true) : ∀ i, i < l.length → x[i]? = some true := by
  intro i
  induction i using Nat.strongRecOn with
  | _ i ih =>
    intro hi
    refine ready_none h hx i l[i] (List.getElem?_eq_getElem hi) fun e he hbd => ?_
    have := backC_spec l 0 hb i l[i] (List.getElem?_eq_getElem hi) e he hbd
    exact ih e.on (by omega) (by omega)
end Go.Proofs.Ythmgkabpcjkieaa
namespace Go.Proofs.Ythmgkabpcjkieaa
open Go.RowKit
set_option linter.unusedVariables false
end Go.Proofs.Ythmgkabpcjkieaa
namespace Go.Proofs.Ythmgkabpcjkieaa
open Go.RowKit
set_option linter.unusedVariables false

theorem matL_good {c : Cm} {id : Int} : ∀ (n : Nat) (l : List Od) (left : Int) (ts : List Ev), GoodL l → 0 ≤ left → left ≤ 1000000 → GoodL (matL c id n l left ts).1 ∧ 0 ≤ (matL c id n l left ts).2.1 ∧ (matL c id n l left ts).2.1 ≤ 1000000
  | 0, l, left, ts, h, h0, h1 => ⟨h, h0, h1⟩
  | n + 1, l, left, ts, h, h0, h1 => by
    rw [matL]
    by_cases hl : 0 < left
    · rw [if_pos hl]
      cases hf : frontO l (othS c.s) with
      | none => exact ⟨h, h0, h1⟩
      | some o =>
        simp only
        by_cases hm : meetO c o = true
        · rw [if_pos hm]
          obtain ⟨hmem, _⟩ := front_mem hf
          obtain ⟨k, hk⟩ := List.getElem?_of_mem hmem
          have ho := h.left o hmem
          rw [plc_at h.rise hk, Int.toNat_natCast]
          exact matL_good n _ _ _ (good_hit h hk (by omega) (by omega)).1 (by omega) (by omega)
        · rw [if_neg hm]; exact ⟨h, h0, h1⟩
    · rw [if_neg hl]; exact ⟨h, h0, h1⟩
/-- The reason that hangs on what would come of an order. -/
def matR (next : Int) (c : Cm) (F : List Od × Int × List Ev) : Int :=
  if c.t = 5 ∧ 0 < F.2.2.length then 11 else if c.t = 4 ∧ 0 < F.2.1 then 12 else if next = 1000000 then 13
  else if restB c.t = true ∧ 0 < F.2.1 then (if fullB (F.1 ++ [{ ordO c next with left := F.2.1 }]) = true then 13 else 0) else 0
end Go.Proofs.Ythmgkabpcjkieaa
namespace Go.Proofs.Ythmgkabpcjkieaa
open Go.RowKit
set_option linter.unusedVariables false

end Go.Proofs.Ythmgkabpcjkieaa
namespace Go.Proofs.Ythmgkabpcjkieaa
open Go.RowKit
set_option linter.unusedVariables false

/-- Whether the lifetime of a new order is wrong. -/
def lifW (c : Cm) : Bool := !betB c.l 0 1 || (decide (c.l = 1) && !restB c.t)
/-- The reason of a new order. -/
def newR (next : Int) (l : List Od) (c : Cm) : Int :=
  if betB c.s 1 2 = false then 3 else if betB c.t 1 5 = false then 4 else if lifW c = true then 5 else if prcB c = false then 6 else if betB c.q 1 1000000 = false then 7 else if tagB c.g = false then 8 else matR next c (matL c next 21 l c.q [])
end Go.Proofs.Ythmgkabpcjkieaa
namespace Go.Proofs.Ythmgkabpcjkieaa
open Go.RowKit
set_option linter.unusedVariables false

/-- The reason of an Id. -/
def idR (l : List Od) (id : Int) : Int := if plc l id < 0 then 9 else 0
/-- The reason of a reduction. -/
def redR (l : List Od) (id qty : Int) : Int := if betB qty 1 1000000 = true then (if plc l id < 0 then 9 else match l[(plc l id).toNat]? with | some o => if o.left ≤ qty then 10 else 0 | none => 0) else 7
theorem plc_cases (l : List Od) (id : Int) : plc l id = -1 ∨ ∃ (k : Nat) (o : Od), plc l id = k ∧ l[k]? = some o := by
  rcases plcF_spec id l 0 with ⟨h1, _⟩ | ⟨i, o, h1, h2, _⟩
  · exact .inl h1
  · exact .inr ⟨i, o, by rw [plc, h1]; congr 1; omega, h2⟩
end Go.Proofs.Ythmgkabpcjkieaa
namespace Go.Proofs.Ythmgkabpcjkieaa
open Go.RowKit
set_option linter.unusedVariables false

end Go.Proofs.Ythmgkabpcjkieaa
