/-
  A command done on a book, by the model, whichever way it goes: put together.
-/
import Derived.Test.YthmgkabpcjkieaaVj35
import Derived.Test.YthmgkabpcjkieaaVj36
import Derived.Test.YthmgkabpcjkieaaVj37
import Derived.Test.YthmgkabpcjkieaaVj38
import Derived.Test.YthmgkabpcjkieaaVj39
namespace Go.Proofs.Ythmgkabpcjkieaa
open Go.RowKit
set_option linter.unusedVariables false

theorem l04Step_any (next : Int) (vb : Value) (l : List Od) (c : Cm) (w : World) (hr : RdR Od.vs 6 w vb l) (hs : SlOk vb) (hg : GoodL l) (hsd : ∀ x ∈ l, x.side = 1 ∨ x.side = 2) (h0 : 0 ≤ next) (h1 : next ≤ 1000000) (ht : c.g.size ≤ maxLen) :
    Calls Try.prog 23 #[.agg #[.int .i64 next, vb], cmV c] w fun e w' => ∃ vq vg, e = .returned (.tuple #[.agg #[.int .i64 (stN next l c), vq], vg]) ∧ ORow w' w.heap.size vq (stL next l c) ∧ ERow w' w.heap.size vg (stE next l c) ∧ Below w.heap.size w w' := by
  by_cases hrr : refR next l c = 0
  · rcases ref_kind hrr with hk | hk | hk | hk
    · exact l04Step_a next vb l c w ⟨hrr, hk⟩ hr hs hg hsd h0 h1 ht
    · exact l04Step_c next vb l c w ⟨hrr, hk⟩ hr hs hg hsd h0 h1 ht
    · exact l04Step_d next vb l c w ⟨hrr, hk⟩ hr hs hg hsd h0 h1 ht
    · exact l04Step_y next vb l c w ⟨hrr, hk⟩ hr hs hg hsd h0 h1 ht
  · exact l04Step_r next vb l c w hrr hr hs hg hsd h0 h1 ht
end Go.Proofs.Ythmgkabpcjkieaa
namespace Go.Proofs.Ythmgkabpcjkieaa
open Go.RowKit
set_option linter.unusedVariables false

end Go.Proofs.Ythmgkabpcjkieaa
namespace Go.Proofs.Ythmgkabpcjkieaa
open Go.RowKit
set_option linter.unusedVariables false

theorem look_only {d i : Nat} : ∀ {ks : List (Nat × Nat)} {j : Nat}, ks.lookup j = some d → ks.all (fun p => p.2 != d || p.1 == i) = true → j = i
  | [], _, h, _ => by cases h
  | (a, b) :: r, j, h, hall => by
    rw [List.lookup_cons] at h
    simp only [List.all_cons, Bool.and_eq_true] at hall
    by_cases e : j = a
    · subst e
      simp at h
      subst h
      have := hall.1
      simp at this
      exact this
    · have : (j == a) = false := by rw [beq_eq_false_iff_ne]; exact e
      rw [this] at h
      exact look_only h hall.2
theorem hit_len {l : List Od} {k : Nat} {o : Od} {q : Int} : (hitAt l k o q).length ≤ l.length := by
  rw [hitAt]
  split
  · simp only [List.length_append, List.length_take, List.length_drop]; omega
  · simp
theorem stL_len {next : Int} {l : List Od} {c : Cm} (hg : GoodL l) : (stL next l c).length ≤ 100 := by
  have hl := hg.len
  rw [stL]
  split
  · next hr =>
    split
    · next hk =>
      have hq := ref_newq hr hk
      have h1 := (matL_good (c := c) (id := next) 21 l c.q [] hg (by omega) hq.2).1.len
      rw [accL]
      split
      · simp; omega
      · omega
    · split
      · split
        · have := @hit_len l (plc l c.i).toNat; rename_i o _; have := @hit_len l (plc l c.i).toNat o o.left; omega
        · omega
      · split
        · split
          · simp; omega
          · omega
        · exact Nat.le_trans (List.length_filter_le _ _) (by omega)
  · omega
theorem stE_len {next : Int} {l : List Od} {c : Cm} (hg : GoodL l) : (stE next l c).length ≤ 100 := by
  have hl := hg.len
  rw [stE]
  split
  · split
    · have h1 := matL_few (c := c) (id := next) 21 l c.q []
      rw [accE]
      simp only [List.length_append, List.length_cons, List.length_nil] at h1 ⊢
      split <;> simp <;> omega
    · split
      · split <;> simp
      · split
        · simp
        · have h1 : (l.filter dyB).length ≤ 20 := Nat.le_trans (List.length_filter_le _ _) hl
          simp only [List.length_cons, List.length_map]; omega
  · simp
section
variable {vs : List Value} {ks : List (Nat × Nat)} {S : Nat} {n N rc : Int} {l L : List Od} {E : List Ev} {p : Prop} {W W' : World} {j d : Nat} {v u : Value}
end
theorem rg_write2 {base W W' : World} {k : Nat} {D : Prop → World → Nat → Value → Prop} {x : List Bool} {f : Nat → Value} (hb : Below base.heap.size base W') (h : ∀ j, x[j]? = some true → D (x[k]? = some true) W j (f j)) (hk : x[k]? = some false) (hm : ∀ j, j ≠ k → x[j]? = some true → D False W j (f j) → D True W' j (f j)) (hv : D True W' k (f k)) :
    Below base.heap.size base W' ∧ ∀ j, (x.set k true)[j]? = some true → D ((x.set k true)[k]? = some true) W' j (f j) := by
  have e : ((x.set k true)[k]? = some true) = True := by
    rw [List.getElem?_set_self (List.getElem?_eq_some_iff.1 hk).1]; simp
  refine ⟨hb, fun j hj => ?_⟩
  rw [e]
  by_cases hji : j = k
  · subst hji; exact hv
  · rw [List.getElem?_set_ne (fun e => hji e.symm)] at hj
    refine hm j hji hj ?_
    have := h j hj
    rw [hk] at this
    simpa using this
end Go.Proofs.Ythmgkabpcjkieaa
namespace Go.Proofs.Ythmgkabpcjkieaa
open Go.RowKit
set_option linter.unusedVariables false

/-- What the operations have while a step is asked for and its pair laid down; p: the book is laid into its box. -/
def DP (vs : List Value) (ks : List (Nat × Nat)) (S : Nat) (n N : Int) (l L : List Od) (E : List Ev) (p : Prop) (W : World) (j : Nat) (v : Value) : Prop :=
  match ks.lookup j with
  | none => ∀ u, vs[j]? = some u → v = u
  | some 1 => ¬ p → ∃ ad cp, v = .agg #[.int .i64 n, .slice (some ad) l.length cp] ∧ RdR Od.vs 6 W (.slice (some ad) l.length cp) l
  | some 2 => ∃ aq cq ag cg, v = .tuple #[.agg #[.int .i64 N, .slice aq L.length cq], .slice ag E.length cg] ∧ ORow W S (.slice aq L.length cq) L ∧ ERow W S (.slice ag E.length cg) E
  | some 3 => ∃ aq cq, v = .agg #[.int .i64 N, .slice aq L.length cq] ∧ ORow W S (.slice aq L.length cq) L
  | some 4 => ∃ ag cg, v = .slice ag E.length cg ∧ ERow W S (.slice ag E.length cg) E
  | some 5 => ∃ b, v = .pointer (some ⟨b, 0, none⟩) ∧ S ≤ b ∧ b < W.heap.size ∧ W.there b 0 2 ∧ (∃ cur, W.heap[b]? = some (.cells cur 26 (0, 0))) ∧ (p → ∃ aq cq, W.rangeAt b 0 [.int .i64 N, .slice aq L.length cq] ∧ ORow W S (.slice aq L.length cq) L)
  | some _ => True
section
variable {vs : List Value} {ks : List (Nat × Nat)} {S : Nat} {n N : Int} {l L : List Od} {E : List Ev} {p : Prop} {W W' : World} {j d : Nat} {v u : Value}
theorem dp_val (h : DP vs ks S n N l L E p W j v) (hk : ks.lookup j = none) (hu : vs[j]? = some u) : v = u := by
  rw [DP, hk] at h; exact h u hu
theorem dp_mkv (hk : ks.lookup j = none) (hu : vs[j]? = some v) : DP vs ks S n N l L E p W j v := by
  rw [DP, hk]; intro u h; rw [hu] at h; cases h; rfl
theorem dp_2 (h : DP vs ks S n N l L E p W j v) (hk : ks.lookup j = some 2) : ∃ aq cq ag cg, v = .tuple #[.agg #[.int .i64 N, .slice aq L.length cq], .slice ag E.length cg] ∧ ORow W S (.slice aq L.length cq) L ∧ ERow W S (.slice ag E.length cg) E := by
  rw [DP, hk] at h; exact h
theorem dp_mk2 (hk : ks.lookup j = some 2) (h : ∃ aq cq ag cg, v = .tuple #[.agg #[.int .i64 N, .slice aq L.length cq], .slice ag E.length cg] ∧ ORow W S (.slice aq L.length cq) L ∧ ERow W S (.slice ag E.length cg) E) : DP vs ks S n N l L E p W j v := by
  rw [DP, hk]; exact h
theorem dp_3 (h : DP vs ks S n N l L E p W j v) (hk : ks.lookup j = some 3) : ∃ aq cq, v = .agg #[.int .i64 N, .slice aq L.length cq] ∧ ORow W S (.slice aq L.length cq) L := by
  rw [DP, hk] at h; exact h
theorem dp_mk3 (hk : ks.lookup j = some 3) (h : ∃ aq cq, v = .agg #[.int .i64 N, .slice aq L.length cq] ∧ ORow W S (.slice aq L.length cq) L) : DP vs ks S n N l L E p W j v := by
  rw [DP, hk]; exact h
theorem dp_4 (h : DP vs ks S n N l L E p W j v) (hk : ks.lookup j = some 4) : ∃ ag cg, v = .slice ag E.length cg ∧ ERow W S (.slice ag E.length cg) E := by
  rw [DP, hk] at h; exact h
theorem dp_mk4 (hk : ks.lookup j = some 4) (h : ∃ ag cg, v = .slice ag E.length cg ∧ ERow W S (.slice ag E.length cg) E) : DP vs ks S n N l L E p W j v := by
  rw [DP, hk]; exact h
theorem dp_5 (h : DP vs ks S n N l L E p W j v) (hk : ks.lookup j = some 5) : ∃ b, v = .pointer (some ⟨b, 0, none⟩) ∧ S ≤ b ∧ b < W.heap.size ∧ W.there b 0 2 ∧ (∃ cur, W.heap[b]? = some (.cells cur 26 (0, 0))) ∧ (p → ∃ aq cq, W.rangeAt b 0 [.int .i64 N, .slice aq L.length cq] ∧ ORow W S (.slice aq L.length cq) L) := by
  rw [DP, hk] at h; exact h
theorem dp_mk5 (hk : ks.lookup j = some 5) (hp : ¬ p) (hS : S ≤ W.heap.size) : DP vs ks S n N l L E p (W.alloc (Obj.cells #[.int .i64 0, .slice none 0 0] 26)) j (.pointer (some ⟨W.heap.size, 0, none⟩)) := by
  rw [DP, hk]; exact ⟨W.heap.size, rfl, hS, by rw [size_made]; omega, there_made W [.int .i64 0, .slice none 0 0] _, ⟨_, heap_alloc_new W _⟩, fun h => absurd h hp⟩
theorem dp_mk9 (hk : ks.lookup j = some 9) : DP vs ks S n N l L E p W j v := by rw [DP, hk]; trivial
theorem dp_grow : ∀ p W W' j v, Below W.heap.size W W' → DP vs ks S n N l L E p W j v → DP vs ks S n N l L E p W' j v := by
  intro p W W' j v hb h
  unfold DP at h ⊢
  split
  · next hk => rw [hk] at h; exact h
  · next hk => rw [hk] at h; intro hp; obtain ⟨ad, cp, h1, h2⟩ := h hp; exact ⟨ad, cp, h1, rdR_below h2 hb (Nat.le_refl _)⟩
  · next hk => rw [hk] at h; obtain ⟨aq, cq, ag, cg, h1, h2, h3⟩ := h; exact ⟨aq, cq, ag, cg, h1, oRow_below h2 hb, eRow_below h3 hb⟩
  · next hk => rw [hk] at h; obtain ⟨aq, cq, h1, h2⟩ := h; exact ⟨aq, cq, h1, oRow_below h2 hb⟩
  · next hk => rw [hk] at h; obtain ⟨ag, cg, h1, h2⟩ := h; exact ⟨ag, cg, h1, eRow_below h2 hb⟩
  · next hk => rw [hk] at h; obtain ⟨b, h1, h2, h3, h4, ⟨cur, h5⟩, h6⟩ := h; exact ⟨b, h1, h2, Nat.lt_of_lt_of_le h3 hb.size, there_below h4 hb h3, ⟨cur, (hb.block b h3).trans h5⟩, fun hp => by obtain ⟨aq, cq, h7, h8⟩ := h6 hp; exact ⟨aq, cq, range_below h7 hb h3, oRow_below h8 hb⟩⟩
  · trivial
/-- The book laid into its box. -/
theorem dp_store {b : Nat} {aq : Option Addr} {cq : Nat} (hS : S ≤ b) (hth : W.there b 0 2) (hlt : b < W.heap.size) (hbx : ∃ cur, W.heap[b]? = some (.cells cur 26 (0, 0))) (ho : ORow W S (.slice aq L.length cq) L) (h5 : ks.lookup j = some 5 → v = .pointer (some ⟨b, 0, none⟩)) (h : DP vs ks S n N l L E False W j v) : DP vs ks S n N l L E True (W.setCells b 0 [.int .i64 N, .slice aq L.length cq]) j v := by
  have hO : ∀ {v L}, ORow W S v L → ORow (W.setCells b 0 [.int .i64 N, .slice aq L.length cq]) S v L := fun h => rowE_setCells (box_apart h hbx (by decide)) _ _ _ h
  have hO' : ∀ {v : Value} {L' : List Od}, ORow W S v L' → ORow (W.setCells b 0 [.int .i64 N, .slice aq L.length cq]) S v L' := fun h => rowE_setCells (box_apart h hbx (by decide)) _ _ _ h
  have hE : ∀ {v : Value} {E' : List Ev}, ERow W S v E' → ERow (W.setCells b 0 [.int .i64 N, .slice aq L.length cq]) S v E' := fun h => rowE_setCells (box_apart h hbx (by decide)) _ _ _ h
  unfold DP at h ⊢
  split
  · next hk => rw [hk] at h; exact h
  · next hk => intro hp; exact absurd trivial hp
  · next hk => rw [hk] at h; obtain ⟨aq, cq, ag, cg, h1, h2, h3⟩ := h; exact ⟨aq, cq, ag, cg, h1, hO' h2, hE h3⟩
  · next hk => rw [hk] at h; obtain ⟨aq, cq, h1, h2⟩ := h; exact ⟨aq, cq, h1, hO' h2⟩
  · next hk => rw [hk] at h; obtain ⟨ag, cg, h1, h2⟩ := h; exact ⟨ag, cg, h1, hE h2⟩
  · next hk =>
    refine ⟨b, h5 hk, hS, by rw [size_setCells]; exact hlt, World.there_setCells hth _ _ _, ?_, fun _ => ⟨aq, cq, World.rangeAt_setCells_same W b 0 _ (fun j hj => hth j hj), hO' ho⟩⟩
    obtain ⟨cur, hc⟩ := hbx
    exact kind_setC W b _ 0 hc
  · trivial
end
/-- Groups in rows of their own may be read. -/
theorem grs_rd {W : World} {B : Nat} {gv : Value} {gs : List Value} {gl : List (List Ev)} (hg : GRow W B gv gs) (hl : gs.length = gl.length) (he : ∀ (i : Nat) (g : Value) (es : List Ev), gs[i]? = some g → gl[i]? = some es → ERow W B g es) (hn : gl.length ≤ 1000) (hm : ∀ es ∈ gl, es.length ≤ 1000) : RdG W gv gl := by
  rcases hg.2 with ⟨e, h0⟩ | ⟨g', cap, cur, e, hb, hgg, h4, h5, h6, h7⟩
  · refine ⟨none, 0, ?_, by omega, fun hne => absurd (List.length_eq_zero_iff.1 (by omega)) hne⟩
    have : gl.length = 0 := by omega
    rw [e, this]
  · refine ⟨some ⟨g', 0, none⟩, cap, by rw [e, hl], by omega, fun _ => ⟨g', 0, rfl, (Array.getElem?_eq_some_iff.1 hgg).1, fun i es hi => ?_⟩⟩
    have hlt : i < gs.length := by rw [hl]; exact (List.getElem?_eq_some_iff.1 hi).1
    obtain ⟨g, hg1⟩ : ∃ g, gs[i]? = some g := ⟨_, List.getElem?_eq_getElem hlt⟩
    refine ⟨g, ?_, ownR_rd (ownR_row Ev.len (by have := hm es (List.mem_of_getElem? hi); omega) (he i g es hg1 hi))⟩
    rw [cell_of_row W g' (0 + i) cur _ (0, 0) hgg]
    have h8 := congrArg (fun l => l[i]?) h7
    simp [hg1, List.getElem?_take] at h8
    simpa using h8.2
end Go.Proofs.Ythmgkabpcjkieaa
namespace Go.Proofs.Ythmgkabpcjkieaa
open Go.RowKit
set_option linter.unusedVariables false

/-- The log: groups, each in a row of its own, the book, totals that are not yet counted. -/
structure LG (w W : World) (gv : Value) (gs : List Value) (vq : Value) (s : RunSt) : Prop where
  r : W.rangeAt (w.heap.size + 1) 0 [gv, .int .i64 s.n, vq, .int .i64 0, .int .i64 0, .int .i64 0, .int .i64 0, .int .i64 0, .int .i64 0, .int .i64 0, .int .i64 0]
  t : W.there (w.heap.size + 1) 0 11
  o : W.there w.heap.size 0 11
  bx : ∃ cur, W.heap[w.heap.size + 1]? = some (.cells cur 30 (0, 0))
  g : GRow W (w.heap.size + 1 + 1) gv gs
  gl : gs.length = s.g.length
  ge : ∀ (i : Nat) (g : Value) (es : List Ev), gs[i]? = some g → s.g[i]? = some es → ERow W (w.heap.size + 1 + 1) g es
  q : ORow W (w.heap.size + 1 + 1) vq s.l
  b : Below w.heap.size w W
  z : w.heap.size + 1 + 1 ≤ W.heap.size
theorem lg_below {w W V : World} {gv : Value} {gs : List Value} {vq : Value} {s : RunSt} (h : LG w W gv gs vq s) (hb : Below W.heap.size W V) : LG w V gv gs vq s := by
  have hz := h.z
  have hk : ∀ {e sz n : Nat} {v : Value} {xs : List Value}, W.ownsRow (w.heap.size + 1 + 1) e sz v n xs → V.ownsRow (w.heap.size + 1 + 1) e sz v n xs := fun {e sz n v xs} hr => World.ownsRow.kept (row := none) hr (below_gr hb (Nat.le_refl _)) (by cases v.ownBlock <;> simp)
  refine ⟨range_below h.r hb (by omega), there_below h.t hb (by omega), there_below h.o hb (by omega), ?_, hk h.g, h.gl, fun i g es hg he => hk (h.ge i g es hg he), hk h.q, h.b.trans (hb.mono h.b.size), Nat.le_trans hz hb.size⟩
  obtain ⟨cur, hc⟩ := h.bx
  exact ⟨cur, (hb.block _ (by omega)).trans hc⟩
/-- The book laid into the log. -/
theorem lg_book {w W : World} {gv : Value} {gs : List Value} {vq vq' : Value} {s : RunSt} (h : LG w W gv gs vq s) (N : Int) (L : List Od) (ho : ORow W (w.heap.size + 1 + 1) vq' L) : LG w ((W.setCell ⟨w.heap.size + 1, 1, none⟩ (.int .i64 N)).setCell ⟨w.heap.size + 1, 2, none⟩ vq') gv gs vq' ⟨N, L, s.g, s.t⟩ := by
  have hk : ∀ {e sz n : Nat} {v : Value} {xs : List Value}, 30 ≠ e → W.ownsRow (w.heap.size + 1 + 1) e sz v n xs → World.ownsRow ((W.setCell ⟨w.heap.size + 1, 1, none⟩ (.int .i64 N)).setCell ⟨w.heap.size + 1, 2, none⟩ vq') (w.heap.size + 1 + 1) e sz v n xs := fun {e sz n v xs} hne hr => row_set (row_set hr (box_apart hr h.bx hne) 1 _) (box_apart hr h.bx hne) 2 _
  have r1 := range_set (j := 1) (u := .int .i64 N) h.r (by simp)
  have r2 := range_set (j := 2) (u := vq') r1 (by simp)
  refine ⟨r2, there_set1 (there_set1 h.t), there_set1 (there_set1 h.o), ?_, hk (by decide) h.g, h.gl, fun i g es hg he => hk (by decide) (h.ge i g es hg he), hk (by decide) ho, (h.b.setCell (p := ⟨w.heap.size + 1, 1, none⟩) (show w.heap.size ≤ w.heap.size + 1 by omega) _).setCell (p := ⟨w.heap.size + 1, 2, none⟩) (show w.heap.size ≤ w.heap.size + 1 by omega) _, by simp only [World.setCell, Array.size_modify]; exact h.z⟩
  obtain ⟨cur, hc⟩ := h.bx
  obtain ⟨c1, h1⟩ := kind_set W (w.heap.size + 1) 1 (.int .i64 N) hc
  exact kind_set _ (w.heap.size + 1) 2 vq' h1
/-- A group laid behind the others: its row grown, then the slice laid into the log. -/
theorem lg_group {w W V : World} {gv gv' g0 : Value} {gs : List Value} {vq : Value} {n : Int} {l : List Od} {gl : List (List Ev)} {t : Tot} {E : List Ev} (h : LG w W gv gs vq ⟨n, l, gl, t⟩) (he : ERow W (w.heap.size + 1 + 1) g0 E) (hg : GRow V (w.heap.size + 1 + 1) gv' (gs ++ [g0])) (hgr : W.grownBy V gv.ownBlock) : LG w (V.setCell ⟨w.heap.size + 1, 0, none⟩ gv') gv' (gs ++ [g0]) vq ⟨n, l, gl ++ [E], t⟩ := by
  have hz := h.z
  have hnm : some (w.heap.size + 1) ≠ gv.ownBlock := box_apart h.g h.bx (by decide)
  have hn0 : some w.heap.size ≠ gv.ownBlock := fun e => by have := (h.g.lt _ e.symm).1; omega
  have hbx : ∃ cur, V.heap[w.heap.size + 1]? = some (.cells cur 30 (0, 0)) := by
    obtain ⟨cur, hc⟩ := h.bx
    exact ⟨cur, (hgr.block _ (by omega) hnm).trans hc⟩
  have hk : ∀ {e sz m : Nat} {v : Value} {xs : List Value}, 30 ≠ e → 62 ≠ e → W.ownsRow (w.heap.size + 1 + 1) e sz v m xs → World.ownsRow (V.setCell ⟨w.heap.size + 1, 0, none⟩ gv') (w.heap.size + 1 + 1) e sz v m xs := fun {e sz m v xs} h1 h2 hr =>
    have h3 : V.ownsRow (w.heap.size + 1 + 1) e sz v m xs := World.ownsRow.kept hr hgr (rows_apart hr h.g (fun e' => h2 e'.symm))
    row_set h3 (box_apart h3 hbx h1) 0 _
  have r0 := range_set (j := 0) (u := gv') (range_grown h.r hgr (by omega) hnm) (by simp)
  refine ⟨r0, there_set1 (there_grown h.t hgr (by omega) hnm), there_set1 (there_grown h.o hgr (by omega) hn0), ?_, row_set hg (box_apart hg hbx (by decide)) 0 _, by simp [h.gl], ?_, hk (by decide) (by decide) h.q, ?_, by simp only [World.setCell, Array.size_modify]; exact Nat.le_trans hz hgr.size⟩
  · obtain ⟨cur, hc⟩ := hbx
    exact kind_set V (w.heap.size + 1) 0 gv' hc
  · intro i g es hg1 hes
    have hgl : gs.length = gl.length := h.gl
    by_cases hi : i < gs.length
    · rw [List.getElem?_append_left hi] at hg1
      rw [List.getElem?_append_left (by omega)] at hes
      exact hk (by decide) (by decide) (h.ge i g es hg1 hes)
    · rw [List.getElem?_append_right (by omega)] at hg1
      rw [List.getElem?_append_right (by omega)] at hes
      rw [hgl] at hg1
      cases hd : i - gl.length with
      | zero => rw [hd] at hg1 hes; cases hg1; cases hes; exact hk (by decide) (by decide) he
      | succ d => rw [hd] at hg1; simp at hg1
  · have hb0 : Below w.heap.size w V := ⟨hgr.os.trans h.b.os, hgr.tape.trans h.b.tape, hgr.output.trans h.b.output, Nat.le_trans h.b.size hgr.size, fun k hk' => (hgr.block k (by omega) (fun e => by have := (h.g.lt _ e.symm).1; omega)).trans (h.b.block k hk')⟩
    exact hb0.setCell (p := ⟨w.heap.size + 1, 0, none⟩) (show w.heap.size ≤ w.heap.size + 1 by omega) _
end Go.Proofs.Ythmgkabpcjkieaa
