/-
  A quantity taken from an order of a book, by the program: proved by walking the function.
-/
import Derived.Test.YtdfihaabhichdaaRj21
import Derived.Test.YtdfihaabhichdaaRj27
namespace Go.Proofs.Ytdfihaabhichdaa
open Go.RowKit
set_option linter.unusedVariables false

/-- What is left of a row behind a trade with the k-th order. -/
def hitAt (l : List Od) (k : Nat) (c : Od) (qty : Int) : List Od := if c.left = qty then l.take k ++ l.drop (k + 1) else l.set k { c with left := c.left - qty }
/-- Memory behind a call that writes a row and the place of its slice. -/
structure TookAt (p o : Nat) (G : Option Nat) (w w' : World) : Prop where
  os : w'.os = w.os
  tape : w'.tape = w.tape
  output : w'.output = w.output
  size : w.heap.size ≤ w'.heap.size
  block : ∀ k, k < w.heap.size → k ≠ p → some k ≠ G → w'.heap[k]? = w.heap[k]?
  cell : ∀ j, j ≠ o + 1 → w'.cell? ⟨p, j, none⟩ = w.cell? ⟨p, j, none⟩
  frozen : ∀ j, w'.frozen? ⟨p, j, none⟩ = w.frozen? ⟨p, j, none⟩
  kind : ∀ cur t x, w.heap[p]? = some (.cells cur t x) → ∃ cur', w'.heap[p]? = some (.cells cur' t x)
theorem kind_set (w : World) (p o : Nat) (u : Value) {cur : Array Value} {t : TypeId} {x : Nat × Nat} (h : w.heap[p]? = some (.cells cur t x)) : ∃ cur', (w.setCell ⟨p, o, none⟩ u).heap[p]? = some (.cells cur' t x) := by
  simp [World.setCell, Array.getElem?_modify, h]
/-- A row stays as it is when another block is written. -/
theorem row_set {W : World} {B e sz n : Nat} {v : Value} {xs : List Value} (h : W.ownsRow B e sz v n xs) {b : Nat} (hb : some b ≠ v.ownBlock) (o : Nat) (u : Value) : (W.setCell ⟨b, o, none⟩ u).ownsRow B e sz v n xs :=
  h.kept (row := some b) ⟨rfl, rfl, rfl, by simp [World.setCell], fun k _ hk => Below.heap_setCell _ _ _ _ (fun e => hk (by rw [e]))⟩ (.inr (Ne.symm hb))
theorem took_grown {p o : Nat} {G : Option Nat} {w w' : World} (h : w.grownBy w' G) (hp : p < w.heap.size) (hne : some p ≠ G) : TookAt p o G w w' :=
  ⟨h.os, h.tape, h.output, h.size, fun k hk _ hG => h.block k hk hG, fun j _ => World.cell?_of_block (a := ⟨p, j, none⟩) (h.block p hp hne), fun j => World.frozen?_of_block (a := ⟨p, j, none⟩) (h.block p hp hne), fun cur t x hh => ⟨cur, (h.block p hp hne).trans hh⟩⟩
theorem took_trans {p o : Nat} {G : Option Nat} {w w1 w2 : World} (h1 : TookAt p o G w w1) (h2 : TookAt p o G w1 w2) : TookAt p o G w w2 :=
  ⟨h2.os.trans h1.os, h2.tape.trans h1.tape, h2.output.trans h1.output, Nat.le_trans h1.size h2.size, fun k hk hp hG => (h2.block k (Nat.lt_of_lt_of_le hk h1.size) hp hG).trans (h1.block k hk hp hG), fun j hj => (h2.cell j hj).trans (h1.cell j hj), fun j => (h2.frozen j).trans (h1.frozen j), fun cur t x hh => by obtain ⟨c1, h3⟩ := h1.kind cur t x hh; exact h2.kind c1 t x h3⟩
theorem took_set {p o : Nat} {G : Option Nat} (w : World) (u : Value) : TookAt p o G w (w.setCell ⟨p, o + 1, none⟩ u) :=
  ⟨rfl, rfl, rfl, by simp [World.setCell], fun k _ hp _ => Below.heap_setCell _ _ _ _ hp, fun j hj => World.cell?_setCell_other _ _ _ _ (addr_ne (fun e => hj e.symm)), fun j => World.frozen?_setCell _ _ _ _, fun cur t x hh => kind_set w p (o + 1) u hh⟩
theorem oRow_below {W W' : World} {B : Nat} {v : Value} {l : List Od} (h : ORow W B v l) (hb : Below W.heap.size W W') : ORow W' B v l :=
  World.ownsRow.kept h (row := none) (below_gr hb (Nat.le_refl _)) (by cases v.ownBlock <;> simp)
theorem od_set_vs (c : Od) (x : Int) : Od.vs { c with left := x } = (Od.vs c).set 3 (.int .i64 x) := rfl
theorem oRow_left {W : World} {B g n cap k : Nat} {l : List Od} {c : Od} (h : ORow W B (.slice (some ⟨g, 0, none⟩) n cap) l) (hn : l.length = n) (hk : l[k]? = some c) (x : Int) :
    ORow (W.setCell ⟨g, k * 6 + 3, none⟩ (.int .i64 x)) B (.slice (some ⟨g, 0, none⟩) n cap) (l.set k { c with left := x }) ∧ W.grownBy (W.setCell ⟨g, k * 6 + 3, none⟩ (.int .i64 x)) (some g) := by
  subst hn
  have s := World.ownsRow.stored h (k * 6 + 3) (.int .i64 x)
  refine ⟨?_, s.2⟩
  have e := flat_set Od.len l k 3 c { c with left := x } (.int .i64 x) hk (by omega) rfl
  show World.ownsRow _ _ _ _ _ (l.set k _).length _
  rw [List.length_set, ← e]; exact s.1
set_option maxRecDepth 100000 in
set_option maxHeartbeats 1600000 in
theorem takeFrom_any (p o B : Nat) (next id qty : Int) (vq : Value) (l : List Od) (k : Nat) (c : Od) (w : World) (c0 : w.cell? ⟨p, o, none⟩ = some (.int .i64 next)) (c1 : w.cell? ⟨p, o + 1, none⟩ = some vq) (f1 : w.frozen? ⟨p, o + 1, none⟩ = false)
    (ho : ORow w B vq l) (hp : some p ≠ vq.ownBlock) (hpw : p < w.heap.size) (hB : B ≤ w.heap.size) (hn : l.length ≤ 1000) (hk : plc l id = k) (hc : l[k]? = some c) (hq0 : 0 ≤ qty) (hq1 : qty ≤ c.left) (hcl : c.left ≤ 1000000) :
    Calls Try.prog 91 #[.pointer (some ⟨p, o, none⟩), .int .i64 id, .int .i64 qty] w fun e w' => ∃ vq', e = .returned (.tuple #[]) ∧ w'.cell? ⟨p, o + 1, none⟩ = some vq' ∧ ORow w' B vq' (hitAt l k c qty) ∧ TookAt p o vq.ownBlock w w' := by
  have hne : l ≠ [] := by rintro rfl; simp at hc
  have hkl := (List.getElem?_eq_some_iff.1 hc).1
  have HO := hide ho
  obtain ⟨g, cap, rfl, hcap, hBg, hgw⟩ := oRow_some ho hne
  have HK := hide hk
  have HC := hide hc
  clear ho hk hc hne
  go_enter Try.func91, Try.ntmps91
  go_wp2_with fail
  refine (placeOf_any next _ l id w (oRow_rd (unhide HO) (by omega))).mono ?_
  rintro e w1 ⟨rfl, hb1⟩
  rw [unhide HK]
  have HB1 := hide hb1
  have HO1 := hide (oRow_below (unhide HO) hb1)
  have d1 : w1.cell? ⟨p, o + 1, none⟩ = some (.slice (some ⟨g, 0, none⟩) l.length cap) := (hb1.cell (p := ⟨p, o + 1, none⟩) hpw).trans c1
  have e1 : w1.frozen? ⟨p, o + 1, none⟩ = false := (hb1.frozen (p := ⟨p, o + 1, none⟩) hpw).trans f1
  have hsz1 := hb1.size
  obtain ⟨a', cp', ee, _, hcl1⟩ := oRow_rd (unhide HO1) (by omega)
  obtain ⟨b', off', e2, _, hcl1⟩ := hcl1 (by intro h; rw [h] at hkl; simp at hkl)
  rw [e2] at ee
  simp only [Value.slice.injEq, Option.some.injEq, Addr.mk.injEq, and_true, true_and] at ee
  obtain ⟨⟨rfl, rfl⟩, -⟩ := ee
  have hcc := hcl1 k c (unhide HC)
  rw [Nat.zero_add] at hcc
  obtain ⟨-, -, -, y3, -⟩ := od_cells hcc
  have fz := World.ownsRow.frozenAt (unhide HO1) (k * 6 + 3)
  have hk' : (k : Int) < l.length := by omega
  have hk0 : (0 : Int) ≤ k := by omega
  have hwr : IntKind.i64.wrap (c.left - qty) = c.left - qty := by rw [IntKind.wrap_i64]; omega
  have hpg : p ≠ g := by simpa [Value.ownBlock] using hp
  have HS := hide (oRow_left (unhide HO1) rfl (unhide HC) (c.left - qty))
  have d2 : (w1.setCell ⟨g, k * 6 + 3, none⟩ (.int .i64 (c.left - qty))).cell? ⟨p, o + 1, none⟩ = some (.slice (some ⟨g, 0, none⟩) l.length cap) := (World.cell?_setCell_other _ _ _ _ (fun e => hpg (by have := congrArg Addr.block e; simpa using this.symm))).trans d1
  have d3 : (w1.setCell ⟨g, k * 6 + 3, none⟩ (.int .i64 (c.left - qty))).cell? ⟨g, k * 6 + 3, none⟩ = some (.int .i64 (c.left - qty)) := World.cell?_setCell_same _ _ _ y3
  have d4 : (w1.setCell ⟨g, k * 6 + 3, none⟩ (.int .i64 (c.left - qty))).frozen? ⟨p, o + 1, none⟩ = false := (World.frozen?_setCell _ _ _ _).trans e1
  clear hb1 hcc hcl1 c0 c1 f1
  by_cases hz : c.left = qty
  · have hz0 : c.left - qty = 0 := by omega
    have HH : Hid (hitAt l k c qty = l.take k ++ l.drop (k + 1)) := if_pos hz
    obtain ⟨m, hm⟩ : ∃ m, l.length = k + 1 + m := ⟨l.length - (k + 1), by omega⟩
    have hol : (l.set k { c with left := c.left - qty }).length = k + 1 + m := by rw [List.length_set, hm]
    have hdel : (l.set k { c with left := c.left - qty }).take k ++ (l.set k { c with left := c.left - qty }).drop (k + 1) = l.take k ++ l.drop (k + 1) := by
      rw [List.take_set_of_le (Nat.le_refl _), List.drop_set_of_lt (by omega)]
    have HDEL := hide hdel
    have HM := hide hm
    have hb0 : (c.left - qty == 0) = true := by rw [beq_iff_eq]; exact hz0
    obtain ⟨-, h2 | ⟨g', cap', cur, h2, h3, h4, h5, h6, h7, h8⟩⟩ := (unhide HS).1
    · simp at h2
    simp only [Value.slice.injEq, Option.some.injEq, Addr.mk.injEq, and_true] at h2
    obtain ⟨rfl, h9, rfl⟩ := h2
    have HDC : Hid (Calls Try.prog 92 #[.slice (some ⟨g, 0, none⟩) (k + 1 + m) cap, .int .i64 k, .int .i64 ((k : Int) + 1)] (w1.setCell ⟨g, k * 6 + 3, none⟩ (.int .i64 (c.left - qty))) _) := delete_any g k m cap B cur (l.set k { c with left := c.left - qty }) _ hol (by rw [List.length_set]; exact hn) h4 h5 h6 h7 h8 hBg
    have HG2 := hide (unhide HS).2
    have hw1 : p < (w1.setCell ⟨g, k * 6 + 3, none⟩ (.int .i64 (c.left - qty))).heap.size := by simp [World.setCell]; omega
    clear hdel hz hol h3 h4 h5 h6 h7 h8 h9 hcap hz0
    rw [hm] at d1 d2 hk' ⊢
    clear hm
    go_wp2_with fail
    refine (unhide HDC).mono ?_
    rw [unhide HDEL]
    rintro e w3 ⟨rfl, ho3, hg3⟩
    have s1 := hg3.cell d2 (by simpa using hpg)
    have s2 : w3.frozen? ⟨p, o + 1, none⟩ = false := (World.frozen?_of_block (a := ⟨p, o + 1, none⟩) (hg3.block p hw1 (by simpa using hpg))).trans d4
    have HO3 := hide ho3
    have HG3 := hide hg3
    clear ho3 hg3
    go_wp2_with fail
    go_end0
    refine ⟨_, rfl, World.cell?_setCell_same _ _ _ s1, ?_, ?_⟩
    · rw [unhide HH]
      exact row_set (unhide HO3) (by simpa [Value.ownBlock] using hpg) (o + 1) _
    · exact took_trans (took_trans (took_trans (took_grown (below_gr (unhide HB1) (Nat.le_refl _)) hpw (by simpa [Value.ownBlock] using hpg)) (took_grown (unhide HG2) (by omega) (by simpa [Value.ownBlock] using hpg))) (took_grown (unhide HG3) hw1 (by simpa [Value.ownBlock] using hpg))) (took_set _ _)
  · have hz0 : (c.left - qty == 0) = false := by rw [beq_eq_false_iff_ne]; omega
    have HH : Hid (hitAt l k c qty = l.set k { c with left := c.left - qty }) := if_neg hz
    go_wp2_with fail
    go_end0
    refine ⟨_, rfl, d2, by rw [unhide HH]; exact (unhide HS).1, ?_⟩
    exact took_trans (took_grown (below_gr (unhide HB1) (Nat.le_refl _)) hpw (by simpa [Value.ownBlock] using hpg)) (took_grown (unhide HS).2 (by omega) (by simpa [Value.ownBlock] using hpg))
end Go.Proofs.Ytdfihaabhichdaa
namespace Go.Proofs.Ytdfihaabhichdaa
open Go.RowKit
set_option linter.unusedVariables false

theorem count_setT : ∀ (x : List Bool) (i : Nat), x[i]? = some false → (x.set i true).count true = x.count true + 1
  | [], i, h => by simp at h
  | b :: r, 0, h => by simp at h; subst h; simp
  | b :: r, i + 1, h => by
    have ih := count_setT r i (by simpa using h)
    simp only [List.set_cons_succ, List.count_cons]
    omega
/-- Each operation that has come up has its value; k is the operation that writes last; the world is of its class, by how many have come up. -/
def RS (B0 : Nat → World → Prop) (F : (Nat → Value) → Act) (k : Nat) (D : Prop → World → Nat → Value → Prop) (x : List Bool) (A : Act) (W : World) : Prop :=
  ∃ f, A = F f ∧ (¬ x[k]? = some true → B0 (x.count true) W) ∧ ∀ j, x[j]? = some true → D (x[k]? = some true) W j (f j)
section
variable {B0 : Nat → World → Prop} {W W' : World} {k : Nat} {D : Prop → World → Nat → Value → Prop} {x : List Bool} {f : Nat → Value}
theorem rs_step (h : ∀ j, x[j]? = some true → D (x[k]? = some true) W j (f j)) {i : Nat} (hik : i ≠ k) (hxi : x[i]? = some false) (hm : ∀ j v, D (x[k]? = some true) W j v → D (x[k]? = some true) W' j v) (hB : B0 (x.count true + 1) W') {v : Value} (hv : D (x[k]? = some true) W' i v) :
    (¬ (x.set i true)[k]? = some true → B0 ((x.set i true).count true) W') ∧ ∀ j, (x.set i true)[j]? = some true → D ((x.set i true)[k]? = some true) W' j (upd f i v j) := by
  refine ⟨fun _ => by rw [count_setT x i hxi]; exact hB, fun j hj => ?_⟩
  rw [List.getElem?_set_ne hik]
  by_cases hji : j = i
  · subst hji; rw [upd_same]; exact hv
  · rw [upd_ne _ _ hji]
    rw [List.getElem?_set_ne (fun e => hji e.symm)] at hj
    exact hm _ _ (h j hj)
theorem rs_last (h : ∀ j, x[j]? = some true → D (x[k]? = some true) W j (f j)) (hk : x[k]? = some false) (hm : ∀ j, j ≠ k → x[j]? = some true → D False W j (f j) → D True W' j (f j)) {v : Value} (hv : D True W' k v) :
    (¬ (x.set k true)[k]? = some true → B0 ((x.set k true).count true) W') ∧ ∀ j, (x.set k true)[j]? = some true → D ((x.set k true)[k]? = some true) W' j (upd f k v j) := by
  have e : ((x.set k true)[k]? = some true) = True := by
    rw [List.getElem?_set_self (List.getElem?_eq_some_iff.1 hk).1]; simp
  refine ⟨fun hn => absurd (by rw [e]; trivial) hn, fun j hj => ?_⟩
  rw [e]
  by_cases hji : j = k
  · subst hji; rw [upd_same]; exact hv
  · rw [upd_ne _ _ hji]
    rw [List.getElem?_set_ne (fun e => hji e.symm)] at hj
    refine hm j hji hj ?_
    have := h j hj
    rw [hk] at this
    simpa using this
end
end Go.Proofs.Ytdfihaabhichdaa
namespace Go.Proofs.Ytdfihaabhichdaa
open Go.RowKit
set_option linter.unusedVariables false

/-- Each operation that has come up has its value; k and h are the operations that write; ahead of them the world is of a class. -/
def RT (B0 : World → Prop) (F : (Nat → Value) → Act) (k h : Nat) (D : Prop → Prop → World → Nat → Value → Prop) (x : List Bool) (A : Act) (W : World) : Prop :=
  ∃ f, A = F f ∧ (¬ x[k]? = some true → B0 W) ∧ ∀ j, x[j]? = some true → D (x[k]? = some true) (x[h]? = some true) W j (f j)
section
variable {B0 : World → Prop} {W W' : World} {k h : Nat} {D : Prop → Prop → World → Nat → Value → Prop} {x : List Bool} {f : Nat → Value}
theorem rt_step (hh : ∀ j, x[j]? = some true → D (x[k]? = some true) (x[h]? = some true) W j (f j)) {i : Nat} (hik : i ≠ k) (hih : i ≠ h) (hm : ∀ j v, D (x[k]? = some true) (x[h]? = some true) W j v → D (x[k]? = some true) (x[h]? = some true) W' j v) (hB : ¬ x[k]? = some true → B0 W') {v : Value} (hv : D (x[k]? = some true) (x[h]? = some true) W' i v) :
    (¬ (x.set i true)[k]? = some true → B0 W') ∧ ∀ j, (x.set i true)[j]? = some true → D ((x.set i true)[k]? = some true) ((x.set i true)[h]? = some true) W' j (upd f i v j) := by
  rw [List.getElem?_set_ne hik, List.getElem?_set_ne hih]
  refine ⟨hB, fun j hj => ?_⟩
  by_cases hji : j = i
  · subst hji; rw [upd_same]; exact hv
  · rw [upd_ne _ _ hji]
    rw [List.getElem?_set_ne (fun e => hji e.symm)] at hj
    exact hm _ _ (hh j hj)
theorem rt_one (hkh : k ≠ h) (hh : ∀ j, x[j]? = some true → D (x[k]? = some true) (x[h]? = some true) W j (f j)) (hk : x[k]? = some false) (hn : ¬ x[h]? = some true) (hm : ∀ j v, j ≠ k → D False False W j v → D True False W' j v) {v : Value} (hv : D True False W' k v) :
    (¬ (x.set k true)[k]? = some true → B0 W') ∧ ∀ j, (x.set k true)[j]? = some true → D ((x.set k true)[k]? = some true) ((x.set k true)[h]? = some true) W' j (upd f k v j) := by
  have e : ((x.set k true)[k]? = some true) = True := by
    rw [List.getElem?_set_self (List.getElem?_eq_some_iff.1 hk).1]; simp
  have e2 : ((x.set k true)[h]? = some true) = False := by
    rw [List.getElem?_set_ne hkh]; exact eq_false hn
  have e3 : (x[h]? = some true) = False := eq_false hn
  have e4 : (x[k]? = some true) = False := by rw [hk]; simp
  rw [e, e2]
  refine ⟨fun h => absurd trivial h, fun j hj => ?_⟩
  by_cases hji : j = k
  · subst hji; rw [upd_same]; exact hv
  · rw [upd_ne _ _ hji]
    rw [List.getElem?_set_ne (fun e => hji e.symm)] at hj
    have := hh j hj
    rw [e3, e4] at this
    exact hm j _ hji this
theorem rt_two (hkh : h ≠ k) (hh : ∀ j, x[j]? = some true → D (x[k]? = some true) (x[h]? = some true) W j (f j)) (hk : x[k]? = some true) (hn : x[h]? = some false) (hm : ∀ j, j ≠ h → x[j]? = some true → D True False W j (f j) → D True True W' j (f j)) {v : Value} (hv : D True True W' h v) :
    (¬ (x.set h true)[k]? = some true → B0 W') ∧ ∀ j, (x.set h true)[j]? = some true → D ((x.set h true)[k]? = some true) ((x.set h true)[h]? = some true) W' j (upd f h v j) := by
  have e : ((x.set h true)[h]? = some true) = True := by
    rw [List.getElem?_set_self (List.getElem?_eq_some_iff.1 hn).1]; simp
  have e2 : ((x.set h true)[k]? = some true) = True := by
    rw [List.getElem?_set_ne hkh, hk]; simp
  have e3 : (x[h]? = some true) = False := by rw [hn]; simp
  have e4 : (x[k]? = some true) = True := by rw [hk]; simp
  rw [e, e2]
  refine ⟨fun h => absurd trivial h, fun j hj => ?_⟩
  by_cases hji : j = h
  · subst hji; rw [upd_same]; exact hv
  · rw [upd_ne _ _ hji]
    rw [List.getElem?_set_ne (fun e => hji e.symm)] at hj
    have := hh j hj
    rw [e3, e4] at this
    exact hm j hji hj this
end
end Go.Proofs.Ytdfihaabhichdaa
namespace Go.Proofs.Ytdfihaabhichdaa
open Go.RowKit
set_option linter.unusedVariables false

def Ev.vs (e : Ev) : List Value := [.int .i64 e.kind, .int .i64 e.cmd.k, .int .i64 e.cmd.s, .int .i64 e.cmd.t, .int .i64 e.cmd.l, .int .i64 e.cmd.q, .int .i64 e.cmd.i, .float .f64 e.cmd.p, .string e.cmd.g, .int .i64 e.id, .int .i64 e.other, .int .i64 e.qty, .int .i64 e.price, .int .i64 e.reason]
theorem Ev.len (e : Ev) : e.vs.length = 14 := rfl
def zCm : Cm := ⟨0, 0, 0, 0, 0, 0, 0, ⟨#[]⟩⟩
/-- A trade as an event. -/
def trE (tid fid qty ftk : Int) : Ev := ⟨3, zCm, tid, fid, qty, ftk, 0⟩
abbrev ERow (W : World) (B : Nat) (v : Value) (l : List Ev) : Prop := W.ownsRow B 105 14 v l.length (l.flatMap Ev.vs)
theorem infoEv : (Try.prog.info? 105).map (fun i => (i.zero, i.size, i.bytes)) = some (some (.agg #[.int .i64 0, .int .i64 0, .int .i64 0, .int .i64 0, .int .i64 0, .int .i64 0, .int .i64 0, .float .f64 0, .string ⟨#[]⟩, .int .i64 0, .int .i64 0, .int .i64 0, .int .i64 0, .int .i64 0]), 14, 120) := by kernel_rfl
theorem one_ev (e : Ev) : ∀ u ∈ e.vs, u.oneCell' = true := by
  intro u hu
  simp [Ev.vs] at hu
  rcases hu with rfl | rfl | rfl | rfl | rfl | rfl | rfl | rfl | rfl | rfl | rfl | rfl | rfl | rfl <;> rfl
theorem eRow_below {W W' : World} {B : Nat} {v : Value} {l : List Ev} (h : ERow W B v l) (hb : Below W.heap.size W W') : ERow W' B v l :=
  World.ownsRow.kept h (row := none) (below_gr hb (Nat.le_refl _)) (by cases v.ownBlock <;> simp)
theorem eRow_set {W : World} {B : Nat} {v : Value} {l : List Ev} (h : ERow W B v l) {b : Nat} (hb : b < B) (o : Nat) (u : Value) : ERow (W.setCell ⟨b, o, none⟩ u) B v l :=
  ownsRow_setCell_below h (a := ⟨b, o, none⟩) hb u
theorem row_sliceT {W : World} {B e sz n : Nat} {v : Value} {xs : List Value} (h : W.ownsRow B e sz v n xs) (hn : 0 < n) : ∃ g c, v = .slice (some ⟨g, 0, none⟩) n c := by
  rcases h.2 with ⟨_, h0⟩ | ⟨g, cap, _, h1, _⟩
  · omega
  · exact ⟨g, cap, h1⟩
theorem cellsT (W : World) (e : Ev) (t : TypeId) : ∀ j u, e.vs[j]? = some u → (W.alloc (Obj.cells e.vs.toArray t)).cell? ((⟨W.heap.size, 0, none⟩ : Addr).add j) = some u := fun j u h => cellsQ W e.vs t j u h
/-- What each operation of a told trade has. -/
def DT (mb fb B : Nat) (W0 : World) (vt : Value) (ts : List Ev) (tid fid qty ftk : Int) (p q : Prop) (V : World) : Nat → Value → Prop
  | 0, v => v = .pointer (some ⟨mb, 0, none⟩)
  | 1, v => v = .pointer (some ⟨mb, 0, none⟩)
  | 2, v => v = .pointer (some ⟨mb, 0, none⟩)
  | 3, v => v = .pointer (some ⟨mb, 8, none⟩)
  | 4, v => v = vt
  | 5, v => v = .pointer (some ⟨mb, 0, none⟩)
  | 6, v => v = .pointer (some ⟨mb, 0, none⟩)
  | 7, v => v = .pointer (some ⟨mb, 2, none⟩)
  | 8, v => v = .pointer (some ⟨mb, 2, none⟩)
  | 9, v => v = .int .i64 tid
  | 10, v => v = .pointer (some ⟨fb, 0, none⟩)
  | 11, v => v = .int .i64 fid
  | 12, v => v = .int .i64 qty
  | 13, v => v = .pointer (some ⟨fb, 2, none⟩)
  | 14, v => v = .int .i64 ftk
  | 15, v => v = evV (trE tid fid qty ftk)
  | 16, v => ∃ s, v = .slice (some ⟨s, 0, none⟩) 1 1 ∧ (¬ p → ∀ j u, (trE tid fid qty ftk).vs[j]? = some u → V.cell? ((⟨s, 0, none⟩ : Addr).add j) = some u)
  | 17, v => ∃ a c, v = .slice a (ts.length + 1) c ∧ p ∧ (¬ q → ERow V B v (ts ++ [trE tid fid qty ftk]) ∧ W0.grownBy V vt.ownBlock) ∧ (q → V.cell? ⟨mb, 8, none⟩ = some v ∧ ERow V B v (ts ++ [trE tid fid qty ftk]) ∧ TookAt mb 7 vt.ownBlock W0 V)
  | 18, v => v = .pointer (some ⟨mb, 0, none⟩)
  | 19, v => v = .pointer (some ⟨mb, 8, none⟩)
  | _, _ => True
section
variable {mb fb B : Nat} {W0 V V' : World} {vt : Value} {ts : List Ev} {tid fid qty ftk : Int} {p q : Prop}
theorem dt_alloc {o : Obj} (hp : ¬ p) : ∀ j v, DT mb fb B W0 vt ts tid fid qty ftk p q V j v → DT mb fb B W0 vt ts tid fid qty ftk p q (V.alloc o) j v := by
  intro j v h
  match j with
  | 0 | 1 | 2 | 3 | 4 | 5 | 6 | 7 | 8 | 9 | 10 | 11 | 12 | 13 | 14 | 15 | 18 | 19 => exact h
  | 16 =>
    obtain ⟨s, h1, h2⟩ := h
    exact ⟨s, h1, fun hp j u hu => (World.cell?_alloc_lt _ _ _ (World.block_lt_of_cell? V _ (h2 hp j u hu))).trans (h2 hp j u hu)⟩
  | 17 => obtain ⟨_, _, _, h2, _⟩ := h; exact absurd h2 hp
  | j + 20 => trivial
theorem dt_one : ∀ j v, j ≠ 17 → DT mb fb B W0 vt ts tid fid qty ftk False False V j v → DT mb fb B W0 vt ts tid fid qty ftk True False V' j v := by
  intro j v hj h
  match j with
  | 0 | 1 | 2 | 3 | 4 | 5 | 6 | 7 | 8 | 9 | 10 | 11 | 12 | 13 | 14 | 15 | 18 | 19 => exact h
  | 16 =>
    obtain ⟨s, h1, h2⟩ := h
    exact ⟨s, h1, fun hp => absurd trivial hp⟩
  | 17 => exact absurd rfl hj
  | j + 20 => trivial
theorem dt_two {v : Value} : ∀ j, j ≠ 20 → DT mb fb B W0 vt ts tid fid qty ftk True False V j v → (j = 17 → DT mb fb B W0 vt ts tid fid qty ftk True True V' 17 v) → DT mb fb B W0 vt ts tid fid qty ftk True True V' j v := by
  intro j hj h h17
  match j with
  | 0 | 1 | 2 | 3 | 4 | 5 | 6 | 7 | 8 | 9 | 10 | 11 | 12 | 13 | 14 | 15 | 18 | 19 => exact h
  | 16 =>
    obtain ⟨s, h1, h2⟩ := h
    exact ⟨s, h1, fun hp => absurd trivial hp⟩
  | 17 => exact h17 rfl
  | j + 20 => trivial
end
end Go.Proofs.Ytdfihaabhichdaa
