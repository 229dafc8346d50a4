/-
  Who trades ahead of whom in a list of orders, how many levels it has, and what a tree of them tells, as pure data; no function walked.
-/
import Derived.Test.YteljmhgpffekgaaFj03
namespace Go.Proofs.Yteljmhgpffekgaa
open Go.RowKit

/-- The one order trades ahead of the other. -/
def ahd (s : Bool) (a b : Od) : Prop := bt s a.ticks b.ticks ∨ (a.ticks = b.ticks ∧ a.id < b.id)
theorem ahd_irr (s : Bool) (a : Od) : ¬ ahd s a a := by
  rintro (h | h)
  · exact bt_irr _ _ h
  · omega
theorem ahd_trans {s : Bool} {a b c : Od} (h1 : ahd s a b) (h2 : ahd s b c) : ahd s a c := by
  rcases h1 with h1 | ⟨e1, h1⟩ <;> rcases h2 with h2 | ⟨e2, h2⟩
  · exact .inl (bt_trans h1 h2)
  · exact .inl (e2 ▸ h1)
  · exact .inl (e1 ▸ h2)
  · exact .inr ⟨e1.trans e2, by omega⟩
theorem ahd_asymm {s : Bool} {a b : Od} (h1 : ahd s a b) : ¬ ahd s b a := fun h2 => ahd_irr s a (ahd_trans h1 h2)
theorem ahd_total {s : Bool} {a b : Od} (h : a.id ≠ b.id) : ahd s a b ∨ ahd s b a := by
  rcases bt_total s a.ticks b.ticks with h1 | h1 | h1
  · exact .inl (.inl h1)
  · rcases Int.lt_or_gt_of_ne h with h2 | h2
    · exact .inl (.inr ⟨h1, h2⟩)
    · exact .inr (.inr ⟨h1.symm, h2⟩)
  · exact .inr (.inl h1)
def Rising (l : List Od) : Prop := l.Pairwise (fun a b => a.id < b.id)
def ofSide (l : List Od) (sd : Int) : List Od := l.filter (fun o => decide (o.side = sd))

theorem ofSide_snoc (l : List Od) (k : Nat) (c : Od) (h : l[k]? = some c) : ofSide (l.take (k + 1)) c.side = ofSide (l.take k) c.side ++ [c] := by
  obtain ⟨hk, rfl⟩ := List.getElem?_eq_some_iff.1 h
  unfold ofSide
  rw [List.take_succ_eq_append_getElem hk, List.filter_append]; simp
theorem ofSide_skip (l : List Od) (k : Nat) (c : Od) {sd : Int} (h : l[k]? = some c) (hs : ¬ c.side = sd) : ofSide (l.take (k + 1)) sd = ofSide (l.take k) sd := by
  obtain ⟨hk, rfl⟩ := List.getElem?_eq_some_iff.1 h
  unfold ofSide
  rw [List.take_succ_eq_append_getElem hk, List.filter_append]; simp [hs]
theorem perm_split (p : Od → Bool) : ∀ l : List Od, List.Perm (l.filter p ++ l.filter (fun o => !p o)) l
  | [] => by simp
  | a :: l => by
    have ih := perm_split p l
    by_cases h : p a = true
    · simp only [List.filter_cons, h, if_true, Bool.not_true, Bool.false_eq_true, if_false, List.cons_append]
      exact ih.cons a
    · simp only [Bool.not_eq_true] at h
      simp only [List.filter_cons, h, Bool.false_eq_true, if_false, Bool.not_false, if_true]
      exact List.perm_middle.trans (ih.cons a)
theorem flat_perm : ∀ (T : List Int) (seq : List Od), T.Nodup → (∀ o ∈ seq, o.ticks ∈ T) → List.Perm (T.flatMap (atK seq)) seq
  | [], seq, _, h => by
    cases seq with
    | nil => simp
    | cons a r => exact absurd (h a (by simp)) (by simp)
  | k :: T, seq, hd, h => by
    have hd' := List.nodup_cons.1 hd
    have e : T.flatMap (atK seq) = T.flatMap (atK (seq.filter (fun o => !decide (o.ticks = k)))) := by
      rw [List.flatMap_def, List.flatMap_def]
      congr 1
      refine List.map_congr_left fun k' hk' => ?_
      unfold atK
      rw [List.filter_filter]
      refine List.filter_congr fun o _ => ?_
      by_cases h1 : o.ticks = k'
      · have : ¬ o.ticks = k := fun e => hd'.1 (by rw [← e, h1]; exact hk')
        simp [h1]; rw [← h1]; exact this
      · simp [h1]
    rw [List.flatMap_cons, e]
    refine (List.Perm.append_left _ (flat_perm T _ hd'.2 (fun o ho => ?_))).trans (perm_split _ seq)
    simp at ho
    rcases List.mem_cons.1 (h o ho.1) with h1 | h1
    · exact absurd h1 ho.2
    · exact h1
theorem sorted_unique {s : Bool} : ∀ {l1 l2 : List Od}, List.Perm l1 l2 → l1.Pairwise (ahd s) → l2.Pairwise (ahd s) → l1 = l2
  | [], l2, h, _, _ => by rw [List.nil_perm.1 h]
  | a :: r, [], h, _, _ => by have := h.length_eq; simp at this
  | a :: r, b :: r', h, h1, h2 => by
    obtain ⟨p1, p2⟩ := List.pairwise_cons.1 h1
    obtain ⟨q1, q2⟩ := List.pairwise_cons.1 h2
    have hab : a = b := by
      rcases List.mem_cons.1 (h.mem_iff.1 (List.mem_cons_self)) with e | e
      · exact e
      · rcases List.mem_cons.1 (h.mem_iff.2 (List.mem_cons_self)) with e' | e'
        · exact e'.symm
        · exact absurd (p1 b e') (ahd_asymm (q1 a e))
    subst hab
    rw [sorted_unique (List.Perm.cons_inv h) p2 q2]
theorem flat_sorted {s : Bool} : ∀ {T : List Int} {seq : List Od}, T.Pairwise (bt s) → Rising seq → (T.flatMap (atK seq)).Pairwise (ahd s)
  | [], _, _, _ => by simp
  | k :: T, seq, hT, hr => by
    obtain ⟨p1, p2⟩ := List.pairwise_cons.1 hT
    rw [List.flatMap_cons, List.pairwise_append]
    refine ⟨?_, flat_sorted p2 hr, fun a ha b hb => ?_⟩
    · have h1 : (atK seq k).Pairwise (fun a b => a.id < b.id) := List.Pairwise.sublist List.filter_sublist hr
      refine h1.imp_of_mem fun {a b} ha hb hab => .inr ⟨?_, hab⟩
      simp [atK] at ha hb
      rw [ha.2, hb.2]
    · simp only [List.mem_flatMap] at hb
      obtain ⟨k', h1, h2⟩ := hb
      simp [atK] at ha h2
      exact .inl (by rw [ha.2, h2.2]; exact p1 k' h1)
theorem bt_nodup {s : Bool} {T : List Int} (h : T.Pairwise (bt s)) : T.Nodup := by
  unfold List.Nodup
  refine h.imp fun {a b} hab => ?_
  rintro rfl
  exact bt_irr s a hab

/-- The prices of orders, the best first. -/
structure IsT (s : Bool) (seq : List Od) (T : List Int) : Prop where
  sorted : T.Pairwise (bt s)
  mem : ∀ k, k ∈ T ↔ ∃ o ∈ seq, o.ticks = k
theorem isT_of {s : Bool} {S : TS} {t : Tr} {sd : Int} {seq : List Od} (hi : TI s S t) (hq : QI S t sd seq) : IsT s seq (t.hs.map fun h => (S.nd h).ticks) := by
  refine ⟨?_, fun k => ⟨fun hk => ?_, ?_⟩⟩
  · rw [List.pairwise_map]; exact hi.sorted
  · obtain ⟨h, h1, rfl⟩ := List.mem_map.1 hk
    have := (hq.q h h1).ne
    obtain ⟨a, ha⟩ := List.exists_mem_of_ne_nil _ this
    obtain ⟨_, _, o, h3, h4⟩ := qsF_mem _ _ _ _ ha
    exact ⟨o, List.mem_of_getElem? h3, h4⟩
  · rintro ⟨o, ho, rfl⟩
    obtain ⟨h, h1, h2⟩ := hq.cover o ho
    exact List.mem_map.2 ⟨h, h1, h2⟩

/-- How many pairs of side and price there are. -/
def nlevR : List Od → Nat
  | [] => 0
  | x :: r => nlevR r + if ∃ y ∈ r, y.side = x.side ∧ y.ticks = x.ticks then 0 else 1
theorem nlevR_eq : ∀ (l : List Od) (A B : List Int), A.Nodup → B.Nodup → (∀ o ∈ l, o.side = 1 ∨ o.side = 2) → (∀ k, k ∈ A ↔ ∃ o ∈ l, o.side = 1 ∧ o.ticks = k) → (∀ k, k ∈ B ↔ ∃ o ∈ l, o.side = 2 ∧ o.ticks = k) → nlevR l = A.length + B.length
  | [], A, B, _, _, _, hA, hB => by
    have a0 : A = [] := List.eq_nil_iff_forall_not_mem.2 fun k hk => by obtain ⟨o, h, _⟩ := (hA k).1 hk; simp at h
    have b0 : B = [] := List.eq_nil_iff_forall_not_mem.2 fun k hk => by obtain ⟨o, h, _⟩ := (hB k).1 hk; simp at h
    rw [a0, b0]; rfl
  | x :: l, A, B, dA, dB, hs, hA, hB => by
    rw [nlevR]
    have hs' : ∀ o ∈ l, o.side = 1 ∨ o.side = 2 := fun o ho => hs o (by simp [ho])
    by_cases he : ∃ y ∈ l, y.side = x.side ∧ y.ticks = x.ticks
    · rw [if_pos he]
      obtain ⟨y, hy, e1, e2⟩ := he
      refine nlevR_eq l A B dA dB hs' (fun k => (hA k).trans ⟨?_, ?_⟩) (fun k => (hB k).trans ⟨?_, ?_⟩)
      · rintro ⟨o, ho, h1, h2⟩
        rcases List.mem_cons.1 ho with rfl | ho
        · exact ⟨y, hy, e1.trans h1, e2.trans h2⟩
        · exact ⟨o, ho, h1, h2⟩
      · rintro ⟨o, ho, h⟩; exact ⟨o, by simp [ho], h⟩
      · rintro ⟨o, ho, h1, h2⟩
        rcases List.mem_cons.1 ho with rfl | ho
        · exact ⟨y, hy, e1.trans h1, e2.trans h2⟩
        · exact ⟨o, ho, h1, h2⟩
      · rintro ⟨o, ho, h⟩; exact ⟨o, by simp [ho], h⟩
    · rw [if_neg he]
      have hno : ∀ y ∈ l, y.side = x.side → y.ticks ≠ x.ticks := fun y hy h1 h2 => he ⟨y, hy, h1, h2⟩
      rcases hs x (by simp) with hx | hx
      · have hxA : x.ticks ∈ A := (hA _).2 ⟨x, by simp, hx, rfl⟩
        have := nlevR_eq l (A.erase x.ticks) B (dA.erase _) dB hs' (fun k => ?_) (fun k => (hB k).trans ⟨?_, ?_⟩)
        · rw [List.length_erase_of_mem hxA] at this
          have hp : 0 < A.length := List.length_pos_of_mem hxA
          omega
        · rw [List.Nodup.mem_erase_iff dA, hA]
          constructor
          · rintro ⟨hk, o, ho, h1, h2⟩
            rcases List.mem_cons.1 ho with rfl | ho
            · exact absurd h2.symm hk
            · exact ⟨o, ho, h1, h2⟩
          · rintro ⟨o, ho, h1, h2⟩
            exact ⟨fun e => hno o ho (h1.trans hx.symm) (h2.trans e), o, by simp [ho], h1, h2⟩
        · rintro ⟨o, ho, h1, h2⟩
          rcases List.mem_cons.1 ho with rfl | ho
          · omega
          · exact ⟨o, ho, h1, h2⟩
        · rintro ⟨o, ho, h⟩; exact ⟨o, by simp [ho], h⟩
      · have hxB : x.ticks ∈ B := (hB _).2 ⟨x, by simp, hx, rfl⟩
        have := nlevR_eq l A (B.erase x.ticks) dA (dB.erase _) hs' (fun k => (hA k).trans ⟨?_, ?_⟩) (fun k => ?_)
        · rw [List.length_erase_of_mem hxB] at this
          have hp : 0 < B.length := List.length_pos_of_mem hxB
          omega
        · rintro ⟨o, ho, h1, h2⟩
          rcases List.mem_cons.1 ho with rfl | ho
          · omega
          · exact ⟨o, ho, h1, h2⟩
        · rintro ⟨o, ho, h⟩; exact ⟨o, by simp [ho], h⟩
        · rw [List.Nodup.mem_erase_iff dB, hB]
          constructor
          · rintro ⟨hk, o, ho, h1, h2⟩
            rcases List.mem_cons.1 ho with rfl | ho
            · exact absurd h2.symm hk
            · exact ⟨o, ho, h1, h2⟩
          · rintro ⟨o, ho, h1, h2⟩
            exact ⟨fun e => hno o ho (h1.trans hx.symm) (h2.trans e), o, by simp [ho], h1, h2⟩
/-- The same, of a list that is gone along from its front. -/
def nlev (l : List Od) : Nat := nlevR l.reverse
theorem nlev_snoc (l : List Od) (x : Od) : nlev (l ++ [x]) = nlev l + if ∃ y ∈ l, y.side = x.side ∧ y.ticks = x.ticks then 0 else 1 := by
  unfold nlev; rw [List.reverse_append]; simp [nlevR]
theorem nlev_le (l : List Od) : nlev l ≤ l.length := by
  have : ∀ l : List Od, nlevR l ≤ l.length := by
    intro l; induction l with
    | nil => simp [nlevR]
    | cons a r ih => rw [nlevR]; split <;> simp <;> omega
  unfold nlev; have := this l.reverse; simpa using this
theorem nlev_eq {l : List Od} {A B : List Int} (hs : ∀ o ∈ l, o.side = 1 ∨ o.side = 2) (hA : IsT true (ofSide l 1) A) (hB : IsT false (ofSide l 2) B) : nlev l = A.length + B.length := by
  refine nlevR_eq _ A B (bt_nodup hA.sorted) (bt_nodup hB.sorted) (fun o ho => hs o (by simpa using ho)) (fun k => (hA.mem k).trans ?_) (fun k => (hB.mem k).trans ?_)
  · simp [ofSide, and_assoc]
  · simp [ofSide, and_assoc]

/-- The order o of a list trades ahead of all others of its side. -/
def IsFront (s : Bool) (l : List Od) (sd : Int) (i : Nat) (o : Od) : Prop := l[i]? = some o ∧ o.side = sd ∧ ∀ j o', l[j]? = some o' → o'.side = sd → j ≠ i → ahd s o o'
theorem front_unique {s : Bool} {l : List Od} {sd : Int} {i j : Nat} {o o' : Od} (h : IsFront s l sd i o) (h' : IsFront s l sd j o') : i = j ∧ o = o' := by
  obtain ⟨a1, a2, a3⟩ := h
  obtain ⟨b1, b2, b3⟩ := h'
  have hij : i = j := by
    rcases Nat.decEq i j with hne | rfl
    · exact absurd (a3 j o' b1 b2 (fun e => hne e.symm)) (ahd_asymm (b3 i o a1 a2 hne))
    · rfl
  subst hij
  rw [a1] at b1
  exact ⟨rfl, Option.some.inj b1⟩
/-- The first of the queue is the front. -/
theorem queue_front {s : Bool} {l : List Od} {sd : Int} {T : List Int} (hr : Rising l) (hT : IsT s (ofSide l sd) T) {o : Od} (ho : (T.flatMap (atK (ofSide l sd))).head? = some o) :
    ∃ i, IsFront s l sd i o := by
  have hrs : Rising (ofSide l sd) := List.Pairwise.sublist List.filter_sublist hr
  have hp := flat_perm T (ofSide l sd) (bt_nodup hT.sorted) (fun o ho => (hT.mem _).2 ⟨o, ho, rfl⟩)
  have hso := flat_sorted hT.sorted hrs
  generalize T.flatMap (atK (ofSide l sd)) = Q at *
  cases Q with
  | nil => simp at ho
  | cons a r =>
    simp at ho; subst ho
    have hm : a ∈ ofSide l sd := hp.mem_iff.1 (by simp)
    simp [ofSide] at hm
    obtain ⟨i, hi⟩ := List.mem_iff_getElem?.1 hm.1
    refine ⟨i, hi, hm.2, fun j o' hj hs hne => ?_⟩
    have hm' : o' ∈ a :: r := hp.mem_iff.2 (by simp [ofSide]; exact ⟨List.mem_of_getElem? hj, hs⟩)
    rcases List.mem_cons.1 hm' with rfl | hm'
    · exfalso
      obtain ⟨h1, e1⟩ := List.getElem?_eq_some_iff.1 hi
      obtain ⟨h2, e2⟩ := List.getElem?_eq_some_iff.1 hj
      have hp2 := List.pairwise_iff_getElem.1 hr
      rcases Nat.lt_or_gt_of_ne hne with h | h
      · have := hp2 j i h2 h1 h; rw [e1, e2] at this; omega
      · have := hp2 i j h1 h2 h; rw [e1, e2] at this; omega
    · exact (List.pairwise_cons.1 hso).1 o' hm'
theorem queue_none {s : Bool} {l : List Od} {sd : Int} {T : List Int} (hT : IsT s (ofSide l sd) T) (ho : (T.flatMap (atK (ofSide l sd))).head? = none) : ∀ o ∈ l, o.side ≠ sd := by
  have hp := flat_perm T (ofSide l sd) (bt_nodup hT.sorted) (fun o ho => (hT.mem _).2 ⟨o, ho, rfl⟩)
  rw [List.head?_eq_none_iff] at ho
  rw [ho] at hp
  have := List.nil_perm.1 hp
  intro o h1 h2
  have hm : o ∈ ofSide l sd := by simp [ofSide]; exact ⟨h1, h2⟩
  rw [this] at hm; simp at hm
end Go.Proofs.Yteljmhgpffekgaa
