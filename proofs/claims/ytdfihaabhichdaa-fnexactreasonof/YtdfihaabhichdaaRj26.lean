/-
  A list without its front, again and again: the queue, as pure data; rows of orders, and what holds while a list without one of its orders is laid anew. No function walked.
-/
import Derived.Test.YtdfihaabhichdaaRj24
import Derived.Test.YtdfihaabhichdaaRj25
import Derived.Laws.AppendOwnNone
namespace Go.Proofs.Ytdfihaabhichdaa
open Go.RowKit
set_option linter.unusedVariables false

/-- What has been chosen so far, and what is left. -/
structure Sel (l : List Od) (sd : Int) (left out : List Od) : Prop where
  sub : left.Sublist l
  perm : List.Perm (out ++ ofSide left sd) (ofSide l sd)
  sorted : out.Pairwise (ahd (decide (sd = 1)))
  ahead : ∀ a ∈ out, ∀ b ∈ ofSide left sd, ahd (decide (sd = 1)) a b
theorem sel_start (l : List Od) (sd : Int) : Sel l sd l [] := ⟨List.Sublist.refl _, by simp, by simp, by simp⟩
theorem erase_split {left : List Od} {i : Nat} {o : Od} (h : left[i]? = some o) : left = left.take i ++ o :: left.drop (i + 1) := by
  obtain ⟨h1, rfl⟩ := List.getElem?_eq_some_iff.1 h
  rw [← List.drop_eq_getElem_cons h1, List.take_append_drop]
theorem sel_step {l : List Od} {sd : Int} {left out : List Od} {i : Nat} {o : Od} (h : Sel l sd left out) (hf : IsFront (decide (sd = 1)) left sd i o) (hr : Rising l) : Sel l sd (left.take i ++ left.drop (i + 1)) (out ++ [o]) := by
  have hsp := erase_split hf.1
  have hsub : (left.take i ++ left.drop (i + 1)).Sublist left := by
    conv => rhs; rw [hsp]
    exact List.Sublist.append (List.Sublist.refl _) (List.sublist_cons_self _ _)
  have hof : ofSide left sd = ofSide (left.take i) sd ++ o :: ofSide (left.drop (i + 1)) sd := by
    conv => lhs; rw [hsp]
    unfold ofSide
    rw [List.filter_append, List.filter_cons]; simp [hf.2.1]
  have hof2 : ofSide (left.take i ++ left.drop (i + 1)) sd = ofSide (left.take i) sd ++ ofSide (left.drop (i + 1)) sd := by unfold ofSide; rw [List.filter_append]
  have hmem : ∀ b ∈ ofSide (left.take i ++ left.drop (i + 1)) sd, ahd (decide (sd = 1)) o b := fun b hb => by
    have hb' : b ∈ left.take i ++ left.drop (i + 1) ∧ b.side = sd := by
      have h1 := List.mem_filter.1 hb
      exact ⟨h1.1, by simpa using h1.2⟩
    have hne : b.id ≠ o.id := by
      have hrl : Rising left := List.Pairwise.sublist h.sub hr
      rw [hsp] at hrl
      obtain ⟨p1, p2, p3⟩ := List.pairwise_append.1 hrl
      rcases List.mem_append.1 hb'.1 with hm | hm
      · have := p3 b hm o (by simp); omega
      · have := (List.pairwise_cons.1 p2).1 b hm; omega
    obtain ⟨j, hj⟩ := List.mem_iff_getElem?.1 (hsub.subset hb'.1)
    refine hf.2.2 j b hj hb'.2 (fun e => ?_)
    subst e
    rw [hf.1] at hj
    exact hne (by rw [Option.some.inj hj])
  refine ⟨hsub.trans h.sub, ?_, ?_, ?_⟩
  · refine List.Perm.trans ?_ h.perm
    rw [hof, hof2, List.append_assoc]
    exact List.Perm.append_left _ (by simpa using List.perm_middle.symm)
  · rw [List.pairwise_append]
    exact ⟨h.sorted, by simp, fun a ha b hb => by simp at hb; subst hb; exact h.ahead a ha _ (by rw [hof]; simp)⟩
  · intro a ha b hb
    rcases List.mem_append.1 ha with ha | ha
    · exact h.ahead a ha b (by rw [hof]; rw [hof2] at hb; simp only [List.mem_append, List.mem_cons] at hb ⊢; rcases hb with h | h <;> simp [h])
    · simp at ha; subst ha; exact hmem b hb
theorem sel_end {l : List Od} {sd : Int} {left out : List Od} (h : Sel l sd left out) (hno : ∀ o ∈ left, o.side ≠ sd) (hr : Rising l) : out = quOf (decide (sd = 1)) (ofSide l sd) := by
  have h0 : ofSide left sd = [] := by
    unfold ofSide; rw [List.filter_eq_nil_iff]; intro o ho; simpa using hno o ho
  have hp := h.perm
  rw [h0, List.append_nil] at hp
  have hT := isT_tks (decide (sd = 1)) (ofSide l sd)
  have hrs : Rising (ofSide l sd) := List.Pairwise.sublist List.filter_sublist hr
  exact sorted_unique (hp.trans (flat_perm _ _ (bt_nodup hT.sorted) (fun o ho => (hT.mem _).2 ⟨o, ho, rfl⟩)).symm) h.sorted (flat_sorted hT.sorted hrs)
theorem sel_len {l : List Od} {sd : Int} {left out : List Od} (h : Sel l sd left out) : out.length ≤ l.length ∧ left.length ≤ l.length := by
  refine ⟨?_, h.sub.length_le⟩
  have h1 := h.perm.length_eq
  rw [List.length_append] at h1
  have h2 : (ofSide l sd).length ≤ l.length := List.length_filter_le _ _
  omega

abbrev ORow (W : World) (B : Nat) (v : Value) (l : List Od) : Prop := W.ownsRow B 49 6 v l.length (l.flatMap Od.vs)
theorem oRow_rd {W : World} {B : Nat} {v : Value} {l : List Od} (h : ORow W B v l) (hl : l.length ≤ 1073741824) : RdR Od.vs 6 W v l := ownR_rd (ownR_row Od.len hl h)
theorem cellsQ (w : World) (cs : List Value) (t : TypeId) (j : Nat) (u : Value) (h : cs[j]? = some u) : (w.alloc (Obj.cells cs.toArray t)).cell? ((⟨w.heap.size, 0, none⟩ : Addr).add j) = some u := by
  rw [Addr.add_mid, cell_of_row _ w.heap.size (0 + j) cs.toArray t (0, 0) (heap_alloc_new w _)]
  simpa using h
/-- The cells of a part of a row. -/
theorem row_cells {W : World} {g off : Nat} {l : List Od} (h : ∀ i c, l[i]? = some c → W.rangeAt g (off + i * 6) c.vs) (a n : Nat) : ∀ j u, (((l.drop a).take n).flatMap Od.vs)[j]? = some u → W.cell? ((⟨g, off + a * 6, none⟩ : Addr).add j) = some u := by
  intro j u hu
  have hlt := (List.getElem?_eq_some_iff.1 hu).1
  rw [flat_len Od.len] at hlt
  have hq : j / 6 < ((l.drop a).take n).length := by omega
  obtain ⟨c, hc⟩ : ∃ c, ((l.drop a).take n)[j / 6]? = some c := ⟨_, List.getElem?_eq_getElem hq⟩
  have h1 := flat_get Od.len _ (j / 6) (j % 6) c hc (by omega)
  rw [show j / 6 * 6 + j % 6 = j by omega, hu] at h1
  have hc' : l[a + j / 6]? = some c := by
    rw [List.getElem?_take] at hc
    split at hc
    · rw [List.getElem?_drop] at hc; exact hc
    · cases hc
  have := h _ c hc' (j % 6) u h1.symm
  rw [Addr.add_mid]
  rw [show off + (a + j / 6) * 6 + j % 6 = off + a * 6 + j by omega] at this
  exact this
theorem one_all (l : List Od) : ∀ u ∈ l.flatMap Od.vs, u.oneCell' = true := by
  intro u hu
  obtain ⟨o, _, ho⟩ := List.mem_flatMap.1 hu
  simp [Od.vs] at ho
  rcases ho with rfl | rfl | rfl | rfl | rfl | rfl <;> rfl

/-- What holds while a list without its front is laid anew. -/
structure R7 (LV : Value) (W0 : World) (C : Nat → Value → Prop) (L1 L2 : List Od) (x : List Bool) (f : Nat → Value) (W : World) : Prop where
  bel : Below W0.heap.size W0 W
  c : ∀ j, x[j]? = some true → C j (f j)
  s5 : x[10]? = some false → f 10 = LV
  m0 : x[0]? = some true → x[4]? = some false → ORow W W0.heap.size (f 0) []
  m4 : x[4]? = some true → x[9]? = some false → ORow W W0.heap.size (f 4) L1
  m9 : x[9]? = some true → ORow W W0.heap.size (f 9) L2
  m10 : x[10]? = some true → f 10 = f 9
  o4 : x[4]? = some true → x[0]? = some true
  o9 : x[9]? = some true → x[4]? = some true
  o10 : x[10]? = some true → ∀ j, j < 10 → x[j]? = some true
theorem gq {x : List Bool} {i j : Nat} (h : i ≠ j) : (x.set i true)[j]? = x[j]? := List.getElem?_set_ne h
theorem set_mono {x : List Bool} {i j : Nat} (h : x[j]? = some true) : (x.set i true)[j]? = some true := by
  by_cases hij : i = j
  · subst hij; exact List.getElem?_set_self (List.getElem?_eq_some_iff.1 h).1
  · rw [List.getElem?_set_ne hij]; exact h
theorem gqs {x : List Bool} {i : Nat} (h : x[i]? = some false) : (x.set i true)[i]? = some true := List.getElem?_set_self (List.getElem?_eq_some_iff.1 h).1
section
variable {LV : Value} {W0 W W' : World} {C : Nat → Value → Prop} {L1 L2 : List Od} {x : List Bool} {f : Nat → Value}
theorem r7_val (h : R7 LV W0 C L1 L2 x f W) (i : Nat) (v : Value) (hv : C i v) (h0 : i ≠ 0) (h4 : i ≠ 4) (h9 : i ≠ 9) (h10 : i ≠ 10) : R7 LV W0 C L1 L2 (x.set i true) (upd f i v) W := by
  refine ⟨h.bel, step_upd h.c hv, ?_, ?_, ?_, ?_, ?_, ?_, ?_, ?_⟩ <;> simp only [gq h0, gq h4, gq h9, gq h10, upd_ne f v h0.symm, upd_ne f v h4.symm, upd_ne f v h9.symm, upd_ne f v h10.symm]
  · exact h.s5
  · exact h.m0
  · exact h.m4
  · exact h.m9
  · exact h.m10
  · exact h.o4
  · exact h.o9
  · exact fun e j hj => set_mono (h.o10 e j hj)
theorem no_of {b : Option Bool} (h : b = some false) : b ≠ some true := by rw [h]; simp
theorem r7_0 (h : R7 LV W0 C L1 L2 x f W) (h0 : x[0]? = some false) (hv : ∀ v, C 0 v) : R7 LV W0 C L1 L2 (x.set 0 true) (upd f 0 (.slice (some ⟨W.heap.size, 0, none⟩) 0 0)) (W.alloc (Obj.cells #[] 49)) := by
  have n4 : x[4]? ≠ some true := fun e => no_of h0 (h.o4 e)
  have n9 : x[9]? ≠ some true := fun e => n4 (h.o9 e)
  have n10 : x[10]? ≠ some true := fun e => n9 (h.o10 e 9 (by omega))
  refine ⟨h.bel.alloc h.bel.size _, step_upd h.c (hv _), ?_, ?_, ?_, ?_, ?_, ?_, ?_, ?_⟩ <;> try simp only [gq (show 0 ≠ 4 by decide), gq (show 0 ≠ 9 by decide), gq (show 0 ≠ 10 by decide), upd_ne f _ (show 10 ≠ 0 by decide), upd_ne f _ (show 9 ≠ 0 by decide), upd_ne f _ (show 4 ≠ 0 by decide)]
  · exact h.s5
  · intro _ _; rw [upd_same]; exact World.ownsRow_made W #[] 0 h.bel.size (by decide) rfl
  · exact fun e => absurd e n4
  · exact fun e => absurd e n9
  · exact fun e => absurd e n10
  · exact fun e => absurd e n4
  · exact h.o9
  · exact fun e j hj => set_mono (h.o10 e j hj)
theorem r7_4 (h : R7 LV W0 C L1 L2 x f W) (h0 : x[0]? = some true) (h4 : x[4]? = some false) (hv : ∀ v, C 4 v) {v' : Value} (ho : ORow W' W0.heap.size v' L1) (hg : W.grownBy W' (f 0).ownBlock) : R7 LV W0 C L1 L2 (x.set 4 true) (upd f 4 v') W' := by
  have n9 : x[9]? ≠ some true := fun e => no_of h4 (h.o9 e)
  have n10 : x[10]? ≠ some true := fun e => n9 (h.o10 e 9 (by omega))
  refine ⟨h.bel.grown hg h.bel.size (fun k hk => ((h.m0 h0 h4).lt k hk).1), step_upd h.c (hv _), ?_, ?_, ?_, ?_, ?_, ?_, ?_, ?_⟩ <;> try simp only [gq (show 4 ≠ 0 by decide), gq (show 4 ≠ 9 by decide), gq (show 4 ≠ 10 by decide), upd_ne f _ (show 10 ≠ 4 by decide), upd_ne f _ (show 9 ≠ 4 by decide), upd_ne f _ (show 0 ≠ 4 by decide)]
  · exact h.s5
  · intro _ e; rw [gqs h4] at e; cases e
  · intro _ _; rw [upd_same]; exact ho
  · exact fun e => absurd e n9
  · exact fun e => absurd e n10
  · exact fun _ => h0
  · exact fun e => absurd e n9
  · exact fun e j hj => set_mono (h.o10 e j hj)
theorem r7_9 (h : R7 LV W0 C L1 L2 x f W) (h4 : x[4]? = some true) (h9 : x[9]? = some false) (hv : ∀ v, C 9 v) {v' : Value} (ho : ORow W' W0.heap.size v' L2) (hg : W.grownBy W' (f 4).ownBlock) : R7 LV W0 C L1 L2 (x.set 9 true) (upd f 9 v') W' := by
  have n10 : x[10]? ≠ some true := fun e => no_of h9 (h.o10 e 9 (by omega))
  refine ⟨h.bel.grown hg h.bel.size (fun k hk => ((h.m4 h4 h9).lt k hk).1), step_upd h.c (hv _), ?_, ?_, ?_, ?_, ?_, ?_, ?_, ?_⟩ <;> try simp only [gq (show 9 ≠ 0 by decide), gq (show 9 ≠ 4 by decide), gq (show 9 ≠ 10 by decide), upd_ne f _ (show 10 ≠ 9 by decide), upd_ne f _ (show 4 ≠ 9 by decide), upd_ne f _ (show 0 ≠ 9 by decide)]
  · exact h.s5
  · exact fun _ e => absurd e (by rw [h4]; simp)
  · intro _ e; rw [gqs h9] at e; cases e
  · intro _; rw [upd_same]; exact ho
  · exact fun e => absurd e n10
  · exact h.o4
  · exact fun _ => h4
  · exact fun e => absurd e n10
theorem r7_10 (h : R7 LV W0 C L1 L2 x f W) (hA : ∀ j, j < 10 → x[j]? = some true) (h10 : x[10]? = some false) (hv : ∀ v, C 10 v) : R7 LV W0 C L1 L2 (x.set 10 true) (upd f 10 (f 9)) W := by
  refine ⟨h.bel, step_upd h.c (hv _), ?_, ?_, ?_, ?_, ?_, ?_, ?_, ?_⟩ <;> try simp only [gq (show 10 ≠ 0 by decide), gq (show 10 ≠ 4 by decide), gq (show 10 ≠ 9 by decide), upd_ne f _ (show 9 ≠ 10 by decide), upd_ne f _ (show 4 ≠ 10 by decide), upd_ne f _ (show 0 ≠ 10 by decide)]
  · intro e; rw [gqs h10] at e; cases e
  · exact h.m0
  · exact h.m4
  · exact h.m9
  · exact fun _ => upd_same _ _ _
  · exact h.o4
  · exact h.o9
  · exact fun _ j hj => set_mono (hA j hj)
end
def C7 (LV : Value) (g n cp i : Nat) : Nat → Value → Prop
  | 1, v => v = LV
  | 2, v => v = .int .i64 i
  | 3, v => v = .slice (some ⟨g, 0, none⟩) i cp
  | 5, v => v = LV
  | 6, v => v = .int .i64 i
  | 7, v => v = .int .i64 ((i : Int) + 1)
  | 8, v => ∃ ad c, v = .slice (some ad) (n - (i + 1)) c ∧ (i + 1 < n → ad = ⟨g, (i + 1) * 6, none⟩)
  | _, _ => True
/-- The frame, the invariant behind a name. -/
def R7A (LV : Value) (W0 : World) (C : Nat → Value → Prop) (L1 L2 : List Od) (F : (Nat → Value) → Act) (x : List Bool) (A : Act) (W : World) : Prop := ∃ f, A = F f ∧ R7 LV W0 C L1 L2 x f W

/-- Along the loop: what is left, what has been chosen, and where they lie. -/
def QuI (l : List Od) (sd : Int) (B : Nat) (w : World) (m : Nat) (lv ov kv : Value) (wr : World) : Prop :=
  ∃ (left out : List Od) (kk : Int), kv = .int .i64 kk ∧ left.length ≤ m ∧ FrPre left sd left.length kk ∧ Sel l sd left out ∧ ORow wr B lv left ∧ ORow wr B ov out ∧ (∀ g, lv.ownBlock = some g → ov.ownBlock ≠ some g) ∧ Below B w wr
theorem oRow_some {W : World} {B : Nat} {v : Value} {l : List Od} (h : ORow W B v l) (hne : l ≠ []) : ∃ g cap, v = .slice (some ⟨g, 0, none⟩) l.length cap ∧ l.length ≤ cap ∧ B ≤ g ∧ g < W.heap.size := by
  rcases h.2 with ⟨rfl, h0⟩ | ⟨g, cap, cur, rfl, hb, hg, hcap, _⟩
  · exact absurd (List.length_eq_zero_iff.1 h0) hne
  · exact ⟨g, cap, rfl, hcap, hb, (Array.getElem?_eq_some_iff.1 hg).1⟩
theorem quOf_len (s : Bool) (seq : List Od) : (quOf s seq).length = seq.length := by
  have hT := isT_tks s seq
  exact (flat_perm _ _ (bt_nodup hT.sorted) (fun o ho => (hT.mem _).2 ⟨o, ho, rfl⟩)).length_eq
end Go.Proofs.Ytdfihaabhichdaa
namespace Go.Proofs.Ytdfihaabhichdaa
open Go.RowKit
set_option linter.unusedVariables false

/-- A slice that is nil, or has a place. -/
def SlOk (v : Value) : Prop := v = .slice none 0 0 ∨ ∃ ad n c, v = .slice (some ad) n c
theorem oRow_sl {W : World} {B : Nat} {v : Value} {l : List Od} (h : ORow W B v l) : SlOk v := by
  rcases h.2 with ⟨h1, _⟩ | ⟨g, cap, cur, h1, _⟩
  · exact .inl h1
  · exact .inr ⟨_, _, _, h1⟩
theorem rd_src {W : World} {ad : Addr} {cap : Nat} {l : List Od} (hr : RdR Od.vs 6 W (.slice (some ad) l.length cap) l) : ∀ j u, (l.flatMap Od.vs)[j]? = some u → W.cell? (ad.add j) = some u := by
  intro j u hu
  obtain ⟨a', cap', e1, _, hc⟩ := hr
  simp only [Value.slice.injEq] at e1
  have hne : l ≠ [] := by rintro rfl; simp at hu
  obtain ⟨b, off, e2, hb, hcl⟩ := hc hne
  rw [e2] at e1
  simp only [Option.some.injEq] at e1
  obtain ⟨rfl, -, -⟩ := e1
  have h := row_cells (W := W) (g := b) (off := off) (l := l) hcl 0 l.length j u (by simpa using hu)
  simpa using h

theorem rd_lenF {W : World} {v : Value} {l : List Od} (h : RdR Od.vs 6 W v l) : ∃ a c, v = .slice a l.length c := by
  obtain ⟨a, c, h1, _⟩ := h; exact ⟨a, c, h1⟩
theorem there_set1 {W : World} {b c o k j : Nat} {u : Value} (h : W.there b o k) : (W.setCell ⟨c, j, none⟩ u).there b o k := World.there_setCells (vs := [u]) h c j
theorem oRow_set {W : World} {B : Nat} {v : Value} {l : List Od} (h : ORow W B v l) {b : Nat} (hb : b < B) (o : Nat) (u : Value) : ORow (W.setCell ⟨b, o, none⟩ u) B v l :=
  ownsRow_setCell_below h (a := ⟨b, o, none⟩) hb u
theorem copy_mid {w W2 w3 : World} {S : Nat} {v3 sv : Value} {next : Int} {l : List Od} (hS : S = w.heap.size) (h1 : Below S w W2) (h2 : W2.heap.size = S + 2) (h3 : W2.rangeAt S 0 [.int .i64 next, sv]) (h4 : W2.there S 0 2) (h5 : W2.there (S + 1) 0 2) (hl : l.length ≤ 1000)
    (h6 : w3.ownsRow (S + 2) 49 6 v3 (0 + l.length) ([] ++ l.flatMap Od.vs)) (h7 : W2.grownBy w3 (Value.slice none 0 0).ownBlock) :
    ∃ a3 c3, v3 = .slice a3 l.length c3 ∧ ORow w3 (S + 2) v3 l ∧ w3.cell? ⟨S, 0, none⟩ = some (.int .i64 next) ∧ w3.cell? ⟨S, 1, none⟩ = some sv ∧ w3.frozen? ⟨S, 1, none⟩ = false ∧ w3.there (S + 1) 0 2 ∧ Below S w w3 ∧ S + 2 ≤ w3.heap.size := by
  have h6' : ORow w3 (S + 2) v3 l := by
    show w3.ownsRow _ _ _ _ l.length _
    simpa using h6
  obtain ⟨a3, c3, e⟩ := rd_lenF (oRow_rd h6' (by omega))
  have r := range_grown h3 h7 (by omega) (by simp [Value.ownBlock])
  refine ⟨a3, c3, e, h6', r 0 _ rfl, r 1 _ rfl, ?_, there_grown h5 h7 (by omega) (by simp [Value.ownBlock]), h1.grown h7 (by omega) (fun k hk => by simp [Value.ownBlock] at hk), by have := h7.size; omega⟩
  have := (there_grown h4 h7 (by omega) (by simp [Value.ownBlock]) 1 (by omega)).2
  rwa [Nat.zero_add] at this
set_option maxRecDepth 100000 in
set_option maxHeartbeats 800000 in
theorem copyBook_any (next : Int) (v : Value) (l : List Od) (w : World) (hr : RdR Od.vs 6 w v l) (hs : SlOk v) (hn : l.length ≤ 1000) :
    Calls Try.prog 86 #[.agg #[.int .i64 next, v]] w fun e w' => ∃ v', e = .returned (.agg #[.int .i64 next, v']) ∧ ORow w' w.heap.size v' l ∧ Below w.heap.size w w' := by
  have HR := hide hr
  obtain ⟨i0, hi0, hz0, hz1, hz2⟩ := info_parts Try.infoOrder
  obtain ⟨a, cap, rfl, hlen, hc⟩ := hr
  have hs1 : (w.alloc (Obj.cells #[.int .i64 next, .slice a l.length cap] 34)).heap.size = w.heap.size + 1 := size_made _ _
  have hs2 : ((w.alloc (Obj.cells #[.int .i64 next, .slice a l.length cap] 34)).alloc (Obj.cells #[.int .i64 0, .slice none 0 0] 34)).heap.size = w.heap.size + 2 := by rw [size_made, hs1]
  have t1 := there_made w [.int .i64 next, .slice a l.length cap] 34
  have r1 := cells_made w [.int .i64 next, .slice a l.length cap] 34
  have b1 : Below (w.heap.size + 1) (w.alloc (Obj.cells #[.int .i64 next, .slice a l.length cap] 34)) ((w.alloc (Obj.cells #[.int .i64 next, .slice a l.length cap] 34)).alloc (Obj.cells #[.int .i64 0, .slice none 0 0] 34)) := (Below.refl _ _).alloc (by rw [hs1]; omega) _
  have t2 := there_made (w.alloc (Obj.cells #[.int .i64 next, .slice a l.length cap] 34)) [.int .i64 0, .slice none 0 0] 34
  rw [hs1] at t2
  have HX : Hid (_ ∧ _ ∧ _) := ⟨range_below r1 b1 (by omega), there_below t1 b1 (by omega), t2⟩
  have HB0 : Hid (Below w.heap.size w ((w.alloc (Obj.cells #[.int .i64 next, .slice a l.length cap] 34)).alloc (Obj.cells #[.int .i64 0, .slice none 0 0] 34))) := ((Below.refl _ _).alloc (Nat.le_refl _) _).alloc (by rw [hs1]; omega) _
  have HS2 := hide hs2
  clear hc t1 r1 b1 t2 hs1 hs2
  go_enter Try.func86, Try.ntmps86
  rcases hs with hs | ⟨ad, nn, cc, hs⟩
  · simp only [Value.slice.injEq] at hs
    obtain ⟨rfl, hl0, rfl⟩ := hs
    obtain rfl := List.length_eq_zero_iff.1 hl0
    go_wp2_with (at_builtin; go_must (refine wpList_append_own_none rfl _ _ 32 rfl (w.heap.size + 2) 49 i0 6 Try.underlying32 hi0 (.slice none 0 0) 0 [] rfl (World.ownsRow_nil _ _ _ _) rfl ?_))
    go_returns
    refine ⟨_, rfl, World.ownsRow_nil _ _ _ _, ?_⟩
    go_grown
  · simp only [Value.slice.injEq] at hs
    obtain ⟨rfl, rfl, rfl⟩ := hs
    have HSRC : Hid (∀ j u, (l.flatMap Od.vs)[j]? = some u → World.cell? (((w.alloc (Obj.cells #[.int .i64 next, .slice (some ad) l.length cap] 34)).alloc (Obj.cells #[.int .i64 0, .slice none 0 0] 34))) (ad.add j) = some u) := rd_src (rdR_below (unhide HR) (unhide HB0) (Nat.le_refl _))
    go_wp2_with (at_builtin; go_must (refine wpList_append_own _ rfl _ _ 32 rfl (w.heap.size + 2) 49 i0 _ 6 56 Try.underlying32 hi0 hz0 hz1 hz2 rfl (by decide) (.slice none 0 0) 0 [] rfl (World.ownsRow_nil _ _ _ _) ad l.length cap (l.flatMap Od.vs) rfl (by rw [flat_len Od.len]) (unhide HSRC) (one_all l) (by unfold maxLen; omega) (by omega) (by rw [unhide HS2]; omega) ?_); intro v3 w3 hown3 hg3 _; obtain ⟨a3, c3, rfl, ho3, c0, c1, f1, ht3, hb3, hs3⟩ := copy_mid rfl (unhide HB0) (unhide HS2) (unhide HX).1 (unhide HX).2.1 (unhide HX).2.2 hn hown3 hg3; have HO3 := hide ho3; have HT3 := hide ht3; have HB3 := hide hb3; obtain ⟨v0, z0, q0⟩ := there1 ht3 0 (by omega); obtain ⟨v1, z1, q1⟩ := there1 ht3 1 (by omega); clear ho3 ht3 hb3 hown3 hg3)
    have z0 : w3.cell? ⟨w.heap.size + 1, 0, none⟩ = some v0 := z0
    have z1 : w3.cell? ⟨w.heap.size + 1, 1, none⟩ = some v1 := by rw [Nat.zero_add] at z1; exact z1
    have q0 : w3.frozen? ⟨w.heap.size + 1, 0, none⟩ = false := q0
    have q1 : w3.frozen? ⟨w.heap.size + 1, 1, none⟩ = false := by rw [Nat.zero_add] at q1; exact q1
    have HRX := hide (World.rangeAt_setCells_same (w3.setCell ⟨w.heap.size, 1, none⟩ (.slice a3 l.length c3)) (w.heap.size + 1) 0 [.int .i64 next, .slice a3 l.length c3] (fun j hj => (there_set1 (unhide HT3)) j hj))
    have HOX := hide (oRow_set (oRow_set (oRow_set (unhide HO3) (b := w.heap.size) (by omega) 1 (.slice a3 l.length c3)) (b := w.heap.size + 1) (by omega) 0 (.int .i64 next)) (b := w.heap.size + 1) (by omega) 1 (.slice a3 l.length c3))
    have HBX := hide ((((unhide HB3).setCell (p := ⟨w.heap.size, 1, none⟩) (Nat.le_refl _) (.slice a3 l.length c3)).setCell (p := ⟨w.heap.size + 1, 0, none⟩) (by simp) (.int .i64 next)).setCell (p := ⟨w.heap.size + 1, 1, none⟩) (by simp) (.slice a3 l.length c3))
    go_wp2_with fail
    have HRX : Hid (World.rangeAt (((w3.setCell ⟨w.heap.size, 1, none⟩ (.slice a3 l.length c3)).setCell ⟨w.heap.size + 1, 0, none⟩ (.int .i64 next)).setCell ⟨w.heap.size + 1, 1, none⟩ (.slice a3 l.length c3)) (w.heap.size + 1) 0 [.int .i64 next, .slice a3 l.length c3]) := unhide HRX
    generalize (((w3.setCell ⟨w.heap.size, 1, none⟩ (.slice a3 l.length c3)).setCell ⟨w.heap.size + 1, 0, none⟩ (.int .i64 next)).setCell ⟨w.heap.size + 1, 1, none⟩ (.slice a3 l.length c3)) = WE at HRX HOX HBX ⊢
    have d0 : WE.cell? ⟨w.heap.size + 1, 0, none⟩ = some (.int .i64 next) := unhide HRX 0 _ rfl
    have d1 : WE.cell? ⟨w.heap.size + 1, 1, none⟩ = some (.slice a3 l.length c3) := unhide HRX 1 _ rfl
    try simp only [Exit.inBlock, Exit.then]
    refine bodyPost_ret (by simp [results, Try.results86, go_sem, d0, d1]; try rfl) rfl ?_
    exact ⟨_, rfl, rowBase_b (unhide HOX) (by omega), unhide HBX⟩
end Go.Proofs.Ytdfihaabhichdaa
