/-
  Who trades ahead of whom in a list of orders, how many levels it has, and what a tree of them tells, as pure data; no function walked.
-/
import Derived.Test.YthmgkabpcjkieaaVj02
import Derived.Test.YthmgkabpcjkieaaVj06
import Derived.Deep.LoopGhost
import Derived.BigRegion
namespace Go.Proofs.Ythmgkabpcjkieaa
open Go.RowKit

/-- The one order trades ahead of the other. -/
def ahd (s : Bool) (a b : Od) : Prop := bt s a.ticks b.ticks ∨ (a.ticks = b.ticks ∧ a.id < b.id)
theorem ahd_irr (s : Bool) (a : Od) : ¬ ahd s a a := by
  rintro (h | h)
  · exact bt_irr _ _ h
  · omega
theorem ahd_trans {s : Bool} {a b c : Od} (h1 : ahd s a b) (h2 : ahd s b c) : ahd s a c := by
  rcases h1 with h1 | ⟨e1, h1⟩ <;> rcases h2 with h2 | ⟨e2, h2⟩
  · exact .inl (bt_trans h1 h2)
  · exact .inl (e2 ▸ h1)
  · exact .inl (e1 ▸ h2)
  · exact .inr ⟨e1.trans e2, by omega⟩
theorem ahd_asymm {s : Bool} {a b : Od} (h1 : ahd s a b) : ¬ ahd s b a := fun h2 => ahd_irr s a (ahd_trans h1 h2)
theorem ahd_total {s : Bool} {a b : Od} (h : a.id ≠ b.id) : ahd s a b ∨ ahd s b a := by
  rcases bt_total s a.ticks b.ticks with h1 | h1 | h1
  · exact .inl (.inl h1)
  · rcases Int.lt_or_gt_of_ne h with h2 | h2
    · exact .inl (.inr ⟨h1, h2⟩)
    · exact .inr (.inr ⟨h1.symm, h2⟩)
  · exact .inr (.inl h1)
def Rising (l : List Od) : Prop := l.Pairwise (fun a b => a.id < b.id)
def ofSide (l : List Od) (sd : Int) : List Od := l.filter (fun o => decide (o.side = sd))
theorem ofSide_snoc (l : List Od) (k : Nat) (c : Od) (h : l[k]? = some c) : ofSide (l.take (k + 1)) c.side = ofSide (l.take k) c.side ++ [c] := by
  obtain ⟨hk, rfl⟩ := List.getElem?_eq_some_iff.1 h
  unfold ofSide
  rw [List.take_succ_eq_append_getElem hk, List.filter_append]; simp
theorem ofSide_skip (l : List Od) (k : Nat) (c : Od) {sd : Int} (h : l[k]? = some c) (hs : ¬ c.side = sd) : ofSide (l.take (k + 1)) sd = ofSide (l.take k) sd := by
  obtain ⟨hk, rfl⟩ := List.getElem?_eq_some_iff.1 h
  unfold ofSide
  rw [List.take_succ_eq_append_getElem hk, List.filter_append]; simp [hs]
theorem perm_split (p : Od → Bool) : ∀ l : List Od, List.Perm (l.filter p ++ l.filter (fun o => !p o)) l
  | [] => by simp
  | a :: l => by
    have ih := perm_split p l
    by_cases h : p a = true
    · simp only [List.filter_cons, h, if_true, Bool.not_true, Bool.false_eq_true, if_false, List.cons_append]
      exact ih.cons a
    · simp only [Bool.not_eq_true] at h
      simp only [List.filter_cons, h, Bool.false_eq_true, if_false, Bool.not_false, if_true]
      exact List.perm_middle.trans (ih.cons a)
theorem flat_perm : ∀ (T : List Int) (seq : List Od), T.Nodup → (∀ o ∈ seq, o.ticks ∈ T) → List.Perm (T.flatMap (atK seq)) seq
  | [], seq, _, h => by
    cases seq with
    | nil => simp
    | cons a r => exact absurd (h a (by simp)) (by simp)
  | k :: T, seq, hd, h => by
    have hd' := List.nodup_cons.1 hd
    have e : T.flatMap (atK seq) = T.flatMap (atK (seq.filter (fun o => !decide (o.ticks = k)))) := by
      rw [List.flatMap_def, List.flatMap_def]
      congr 1
      refine List.map_congr_left fun k' hk' => ?_
      unfold atK
      rw [List.filter_filter]
      refine List.filter_congr fun o _ => ?_
      by_cases h1 : o.ticks = k'
      · have : ¬ o.ticks = k := fun e => hd'.1 (by rw [← e, h1]; exact hk')
        simp [h1]; rw [← h1]; exact this
      · simp [h1]
    rw [List.flatMap_cons, e]
    refine (List.Perm.append_left _ (flat_perm T _ hd'.2 (fun o ho => ?_))).trans (perm_split _ seq)
    simp at ho
    rcases List.mem_cons.1 (h o ho.1) with h1 | h1
    · exact absurd h1 ho.2
    · exact h1
theorem flat_sorted {s : Bool} : ∀ {T : List Int} {seq : List Od}, T.Pairwise (bt s) → Rising seq → (T.flatMap (atK seq)).Pairwise (ahd s)
  | [], _, _, _ => by simp
  | k :: T, seq, hT, hr => by
    obtain ⟨p1, p2⟩ := List.pairwise_cons.1 hT
    rw [List.flatMap_cons, List.pairwise_append]
    refine ⟨?_, flat_sorted p2 hr, fun a ha b hb => ?_⟩
    · have h1 : (atK seq k).Pairwise (fun a b => a.id < b.id) := List.Pairwise.sublist List.filter_sublist hr
      refine h1.imp_of_mem fun {a b} ha hb hab => .inr ⟨?_, hab⟩
      simp [atK] at ha hb
      rw [ha.2, hb.2]
    · simp only [List.mem_flatMap] at hb
      obtain ⟨k', h1, h2⟩ := hb
      simp [atK] at ha h2
      exact .inl (by rw [ha.2, h2.2]; exact p1 k' h1)
theorem bt_nodup {s : Bool} {T : List Int} (h : T.Pairwise (bt s)) : T.Nodup := by
  unfold List.Nodup
  refine h.imp fun {a b} hab => ?_
  rintro rfl
  exact bt_irr s a hab
/-- The prices of orders, the best first. -/
structure IsT (s : Bool) (seq : List Od) (T : List Int) : Prop where
  sorted : T.Pairwise (bt s)
  mem : ∀ k, k ∈ T ↔ ∃ o ∈ seq, o.ticks = k
theorem isT_of {s : Bool} {S : TS} {t : Tr} {sd : Int} {seq : List Od} (hi : TI s S t) (hq : QI S t sd seq) : IsT s seq (t.hs.map fun h => (S.nd h).ticks) := by
  refine ⟨?_, fun k => ⟨fun hk => ?_, ?_⟩⟩
  · rw [List.pairwise_map]; exact hi.sorted
  · obtain ⟨h, h1, rfl⟩ := List.mem_map.1 hk
    have := (hq.q h h1).ne
    obtain ⟨a, ha⟩ := List.exists_mem_of_ne_nil _ this
    obtain ⟨_, _, o, h3, h4⟩ := qsF_mem _ _ _ _ ha
    exact ⟨o, List.mem_of_getElem? h3, h4⟩
  · rintro ⟨o, ho, rfl⟩
    obtain ⟨h, h1, h2⟩ := hq.cover o ho
    exact List.mem_map.2 ⟨h, h1, h2⟩
/-- How many pairs of side and price there are. -/
def nlevR : List Od → Nat
  | [] => 0
  | x :: r => nlevR r + if ∃ y ∈ r, y.side = x.side ∧ y.ticks = x.ticks then 0 else 1
theorem nlevR_eq : ∀ (l : List Od) (A B : List Int), A.Nodup → B.Nodup → (∀ o ∈ l, o.side = 1 ∨ o.side = 2) → (∀ k, k ∈ A ↔ ∃ o ∈ l, o.side = 1 ∧ o.ticks = k) → (∀ k, k ∈ B ↔ ∃ o ∈ l, o.side = 2 ∧ o.ticks = k) → nlevR l = A.length + B.length
  | [], A, B, _, _, _, hA, hB => by
    have a0 : A = [] := List.eq_nil_iff_forall_not_mem.2 fun k hk => by obtain ⟨o, h, _⟩ := (hA k).1 hk; simp at h
    have b0 : B = [] := List.eq_nil_iff_forall_not_mem.2 fun k hk => by obtain ⟨o, h, _⟩ := (hB k).1 hk; simp at h
    rw [a0, b0]; rfl
  | x :: l, A, B, dA, dB, hs, hA, hB => by
    rw [nlevR]
    have hs' : ∀ o ∈ l, o.side = 1 ∨ o.side = 2 := fun o ho => hs o (by simp [ho])
    by_cases he : ∃ y ∈ l, y.side = x.side ∧ y.ticks = x.ticks
    · rw [if_pos he]
      obtain ⟨y, hy, e1, e2⟩ := he
      refine nlevR_eq l A B dA dB hs' (fun k => (hA k).trans ⟨?_, ?_⟩) (fun k => (hB k).trans ⟨?_, ?_⟩)
      · rintro ⟨o, ho, h1, h2⟩
        rcases List.mem_cons.1 ho with rfl | ho
        · exact ⟨y, hy, e1.trans h1, e2.trans h2⟩
        · exact ⟨o, ho, h1, h2⟩
      · rintro ⟨o, ho, h⟩; exact ⟨o, by simp [ho], h⟩
      · rintro ⟨o, ho, h1, h2⟩
        rcases List.mem_cons.1 ho with rfl | ho
        · exact ⟨y, hy, e1.trans h1, e2.trans h2⟩
        · exact ⟨o, ho, h1, h2⟩
      · rintro ⟨o, ho, h⟩; exact ⟨o, by simp [ho], h⟩
    · rw [if_neg he]
      have hno : ∀ y ∈ l, y.side = x.side → y.ticks ≠ x.ticks := fun y hy h1 h2 => he ⟨y, hy, h1, h2⟩
      rcases hs x (by simp) with hx | hx
      · have hxA : x.ticks ∈ A := (hA _).2 ⟨x, by simp, hx, rfl⟩
        have := nlevR_eq l (A.erase x.ticks) B (dA.erase _) dB hs' (fun k => ?_) (fun k => (hB k).trans ⟨?_, ?_⟩)
        · rw [List.length_erase_of_mem hxA] at this
          have hp : 0 < A.length := List.length_pos_of_mem hxA
          omega
        · rw [List.Nodup.mem_erase_iff dA, hA]
          constructor
          · rintro ⟨hk, o, ho, h1, h2⟩
            rcases List.mem_cons.1 ho with rfl | ho
            · exact absurd h2.symm hk
            · exact ⟨o, ho, h1, h2⟩
          · rintro ⟨o, ho, h1, h2⟩
            exact ⟨fun e => hno o ho (h1.trans hx.symm) (h2.trans e), o, by simp [ho], h1, h2⟩
        · rintro ⟨o, ho, h1, h2⟩
          rcases List.mem_cons.1 ho with rfl | ho
          · omega
          · exact ⟨o, ho, h1, h2⟩
        · rintro ⟨o, ho, h⟩; exact ⟨o, by simp [ho], h⟩
      · have hxB : x.ticks ∈ B := (hB _).2 ⟨x, by simp, hx, rfl⟩
        have := nlevR_eq l A (B.erase x.ticks) dA (dB.erase _) hs' (fun k => (hA k).trans ⟨?_, ?_⟩) (fun k => ?_)
        · rw [List.length_erase_of_mem hxB] at this
          have hp : 0 < B.length := List.length_pos_of_mem hxB
          omega
        · rintro ⟨o, ho, h1, h2⟩
          rcases List.mem_cons.1 ho with rfl | ho
          · omega
          · exact ⟨o, ho, h1, h2⟩
        · rintro ⟨o, ho, h⟩; exact ⟨o, by simp [ho], h⟩
        · rw [List.Nodup.mem_erase_iff dB, hB]
          constructor
          · rintro ⟨hk, o, ho, h1, h2⟩
            rcases List.mem_cons.1 ho with rfl | ho
            · exact absurd h2.symm hk
            · exact ⟨o, ho, h1, h2⟩
          · rintro ⟨o, ho, h1, h2⟩
            exact ⟨fun e => hno o ho (h1.trans hx.symm) (h2.trans e), o, by simp [ho], h1, h2⟩
/-- The same, of a list that is gone along from its front. -/
def nlev (l : List Od) : Nat := nlevR l.reverse
theorem nlev_snoc (l : List Od) (x : Od) : nlev (l ++ [x]) = nlev l + if ∃ y ∈ l, y.side = x.side ∧ y.ticks = x.ticks then 0 else 1 := by
  unfold nlev; rw [List.reverse_append]; simp [nlevR]
theorem nlev_eq {l : List Od} {A B : List Int} (hs : ∀ o ∈ l, o.side = 1 ∨ o.side = 2) (hA : IsT true (ofSide l 1) A) (hB : IsT false (ofSide l 2) B) : nlev l = A.length + B.length := by
  refine nlevR_eq _ A B (bt_nodup hA.sorted) (bt_nodup hB.sorted) (fun o ho => hs o (by simpa using ho)) (fun k => (hA.mem k).trans ?_) (fun k => (hB.mem k).trans ?_)
  · simp [ofSide, and_assoc]
  · simp [ofSide, and_assoc]
/-- The order o of a list trades ahead of all others of its side. -/
def IsFront (s : Bool) (l : List Od) (sd : Int) (i : Nat) (o : Od) : Prop := l[i]? = some o ∧ o.side = sd ∧ ∀ j o', l[j]? = some o' → o'.side = sd → j ≠ i → ahd s o o'
theorem front_unique {s : Bool} {l : List Od} {sd : Int} {i j : Nat} {o o' : Od} (h : IsFront s l sd i o) (h' : IsFront s l sd j o') : i = j ∧ o = o' := by
  obtain ⟨a1, a2, a3⟩ := h
  obtain ⟨b1, b2, b3⟩ := h'
  have hij : i = j := by
    rcases Nat.decEq i j with hne | rfl
    · exact absurd (a3 j o' b1 b2 (fun e => hne e.symm)) (ahd_asymm (b3 i o a1 a2 hne))
    · rfl
  subst hij
  rw [a1] at b1
  exact ⟨rfl, Option.some.inj b1⟩
/-- The first of the queue is the front. -/
theorem queue_front {s : Bool} {l : List Od} {sd : Int} {T : List Int} (hr : Rising l) (hT : IsT s (ofSide l sd) T) {o : Od} (ho : (T.flatMap (atK (ofSide l sd))).head? = some o) :
    ∃ i, IsFront s l sd i o := by
  have hrs : Rising (ofSide l sd) := List.Pairwise.sublist List.filter_sublist hr
  have hp := flat_perm T (ofSide l sd) (bt_nodup hT.sorted) (fun o ho => (hT.mem _).2 ⟨o, ho, rfl⟩)
  have hso := flat_sorted hT.sorted hrs
  generalize T.flatMap (atK (ofSide l sd)) = Q at *
  cases Q with
  | nil => simp at ho
  | cons a r =>
    simp at ho; subst ho
    have hm : a ∈ ofSide l sd := hp.mem_iff.1 (by simp)
    simp [ofSide] at hm
    obtain ⟨i, hi⟩ := List.mem_iff_getElem?.1 hm.1
    refine ⟨i, hi, hm.2, fun j o' hj hs hne => ?_⟩
    have hm' : o' ∈ a :: r := hp.mem_iff.2 (by simp [ofSide]; exact ⟨List.mem_of_getElem? hj, hs⟩)
    rcases List.mem_cons.1 hm' with rfl | hm'
    · exfalso
      obtain ⟨h1, e1⟩ := List.getElem?_eq_some_iff.1 hi
      obtain ⟨h2, e2⟩ := List.getElem?_eq_some_iff.1 hj
      have hp2 := List.pairwise_iff_getElem.1 hr
      rcases Nat.lt_or_gt_of_ne hne with h | h
      · have := hp2 j i h2 h1 h; rw [e1, e2] at this; omega
      · have := hp2 i j h1 h2 h; rw [e1, e2] at this; omega
    · exact (List.pairwise_cons.1 hso).1 o' hm'
theorem queue_none {s : Bool} {l : List Od} {sd : Int} {T : List Int} (hT : IsT s (ofSide l sd) T) (ho : (T.flatMap (atK (ofSide l sd))).head? = none) : ∀ o ∈ l, o.side ≠ sd := by
  have hp := flat_perm T (ofSide l sd) (bt_nodup hT.sorted) (fun o ho => (hT.mem _).2 ⟨o, ho, rfl⟩)
  rw [List.head?_eq_none_iff] at ho
  rw [ho] at hp
  have := List.nil_perm.1 hp
  intro o h1 h2
  have hm : o ∈ ofSide l sd := by simp [ofSide]; exact ⟨h1, h2⟩
  rw [this] at hm; simp at hm
end Go.Proofs.Ythmgkabpcjkieaa
namespace Go.Proofs.Ythmgkabpcjkieaa
open Go.RowKit
set_option linter.unusedVariables false

def Od.vs (o : Od) : List Value := [.int .i64 o.id, .int .i64 o.side, .int .i64 o.ticks, .int .i64 o.left, .int .i64 o.life, .string o.tag]
theorem Od.len (o : Od) : o.vs.length = 6 := rfl
def Od.val (o : Od) : Value := .agg #[.int .i64 o.id, .int .i64 o.side, .int .i64 o.ticks, .int .i64 o.left, .int .i64 o.life, .string o.tag]
def Nd.vs (n : Nd) : List Value := [.int .i64 n.side, .int .i64 n.ticks, .int .i64 n.qty, .int .i64 n.count, .int .i64 n.be, .int .i64 n.wo, .int .i64 n.el, .int .i64 n.yo]
def Qo.vs (q : Qo) : List Value := [.int .i64 q.od.id, .int .i64 q.od.side, .int .i64 q.od.ticks, .int .i64 q.od.left, .int .i64 q.od.life, .string q.od.tag, .int .i64 q.yg]
/-- The tree S in block b. -/
structure TM (T : TypeId) (w : World) (b : Nat) (S : TS) : Prop where
  root : w.cell? ⟨b, 0, none⟩ = some (.int .i64 S.root)
  lc : w.cell? ⟨b, 1, none⟩ = some (.int .i64 S.lc)
  nd : ∀ i, i < 21 → w.rangeAt b (2 + i * 8) (S.nd i).vs
  oc : w.cell? ⟨b, 170, none⟩ = some (.int .i64 S.oc)
  qo : ∀ i, i < 21 → w.rangeAt b (171 + i * 7) (S.qo i).vs
  fr : ∀ o, w.frozen? ⟨b, o, none⟩ = false
  obj : ∃ cur, w.heap[b]? = some (.cells cur T (0, 0))
theorem obj_set {w : World} {b o : Nat} {v : Value} {T : TypeId} (h : ∃ cur, w.heap[b]? = some (.cells cur T (0, 0))) : ∃ cur, (w.setCell ⟨b, o, none⟩ v).heap[b]? = some (.cells cur T (0, 0)) := by
  obtain ⟨cur, h⟩ := h
  exact ⟨cur.setIfInBounds o v, by simp [World.setCell, Array.getElem?_modify, h]⟩
theorem tm_lt {w : World} {b : Nat} {S : TS} {T : TypeId} (h : TM T w b S) : b < w.heap.size := World.block_lt_of_cell? w _ h.root
theorem tm_block {w w' : World} {b : Nat} {S : TS} {T : TypeId} (h : TM T w b S) (hb : w'.heap[b]? = w.heap[b]?) : TM T w' b S :=
  ⟨(World.cell?_of_block (a := ⟨b, 0, none⟩) hb).trans h.root, (World.cell?_of_block (a := ⟨b, 1, none⟩) hb).trans h.lc,
   fun i hi j v hv => (World.cell?_of_block (a := ⟨b, 2 + i * 8 + j, none⟩) hb).trans (h.nd i hi j v hv), (World.cell?_of_block (a := ⟨b, 170, none⟩) hb).trans h.oc,
   fun i hi j v hv => (World.cell?_of_block (a := ⟨b, 171 + i * 7 + j, none⟩) hb).trans (h.qo i hi j v hv), fun o => (World.frozen?_of_block (a := ⟨b, o, none⟩) hb).trans (h.fr o), by rw [hb]; exact h.obj⟩
theorem tm_below {w w' : World} {b C : Nat} {S : TS} {T : TypeId} (h : TM T w b S) (hb : Below C w w') (hC : b < C) : TM T w' b S := tm_block h (hb.block b hC)
theorem tm_grown {w w' : World} {b : Nat} {G : Option Nat} {S : TS} {T : TypeId} (h : TM T w b S) (hg : w.grownBy w' G) (hne : some b ≠ G) : TM T w' b S := tm_block h (hg.block b (tm_lt h) hne)
theorem set_range {w : World} {b o n : Nat} {v : Value} {cs : List Value} (h : w.rangeAt b o cs) (hn : n < o ∨ o + cs.length ≤ n) : (w.setCell ⟨b, n, none⟩ v).rangeAt b o cs := fun j u hu => by
  have hj := (List.getElem?_eq_some_iff.1 hu).1
  rw [World.cell?_setCell_other _ _ _ _ (addr_ne (by omega))]
  exact h j u hu
theorem set_range_in {w : World} {b o j0 : Nat} {v : Value} {cs : List Value} (h : w.rangeAt b o cs) (hj0 : j0 < cs.length) : (w.setCell ⟨b, o + j0, none⟩ v).rangeAt b o (cs.set j0 v) := fun j u hu => by
  by_cases hj : j = j0
  · subst hj
    rw [List.getElem?_set_self hj0] at hu
    obtain rfl := Option.some.inj hu
    exact World.cell?_setCell_same _ _ _ (h j _ (List.getElem?_eq_getElem hj0))
  · rw [List.getElem?_set_ne (fun e => hj e.symm)] at hu
    rw [World.cell?_setCell_other _ _ _ _ (addr_ne (by omega))]
    exact h j u hu
theorem set_cell {w : World} {b o n : Nat} {v u : Value} (h : w.cell? ⟨b, o, none⟩ = some u) (hn : o ≠ n) : (w.setCell ⟨b, n, none⟩ v).cell? ⟨b, o, none⟩ = some u := by
  rw [World.cell?_setCell_other _ _ _ _ (addr_ne (by omega))]; exact h
theorem Nd.len (n : Nd) : n.vs.length = 8 := rfl
theorem Qo.len (n : Qo) : n.vs.length = 7 := rfl
theorem tm_root {w : World} {b : Nat} {S : TS} {T : TypeId} (h : TM T w b S) (n : Nat) : TM T (w.setCell ⟨b, 0, none⟩ (.int .i64 n)) b { S with root := n } :=
  ⟨World.cell?_setCell_same _ _ _ h.root, set_cell h.lc (by omega), fun i hi => set_range (h.nd i hi) (by omega), set_cell h.oc (by omega), fun i hi => set_range (h.qo i hi) (by omega), fun o => by rw [World.frozen?_setCell]; exact h.fr o, obj_set h.obj⟩
theorem tm_lc {w : World} {b : Nat} {S : TS} {T : TypeId} (h : TM T w b S) (n : Nat) : TM T (w.setCell ⟨b, 1, none⟩ (.int .i64 n)) b { S with lc := n } :=
  ⟨set_cell h.root (by omega), World.cell?_setCell_same _ _ _ h.lc, fun i hi => set_range (h.nd i hi) (by omega), set_cell h.oc (by omega), fun i hi => set_range (h.qo i hi) (by omega), fun o => by rw [World.frozen?_setCell]; exact h.fr o, obj_set h.obj⟩
theorem tm_oc {w : World} {b : Nat} {S : TS} {T : TypeId} (h : TM T w b S) (n : Nat) : TM T (w.setCell ⟨b, 170, none⟩ (.int .i64 n)) b { S with oc := n } :=
  ⟨set_cell h.root (by omega), set_cell h.lc (by omega), fun i hi => set_range (h.nd i hi) (by rw [Nd.len]; omega), World.cell?_setCell_same _ _ _ h.oc, fun i hi => set_range (h.qo i hi) (by omega), fun o => by rw [World.frozen?_setCell]; exact h.fr o, obj_set h.obj⟩
theorem tm_nd {w : World} {b : Nat} {S : TS} {T : TypeId} (h : TM T w b S) (i0 j0 : Nat) (hi0 : i0 < 21) (hj0 : j0 < 8) (v : Value) (n' : Nd) (hn : n'.vs = (S.nd i0).vs.set j0 v) (o : Nat) (ho : o = 2 + i0 * 8 + j0) :
    TM T (w.setCell ⟨b, o, none⟩ v) b { S with nd := upd S.nd i0 n' } := by
  subst ho
  refine ⟨set_cell h.root (by omega), set_cell h.lc (by omega), fun i hi => ?_, set_cell h.oc (by omega), fun i hi => set_range (h.qo i hi) (by omega), fun o => by rw [World.frozen?_setCell]; exact h.fr o, obj_set h.obj⟩
  by_cases hii : i = i0
  · subst hii
    show World.rangeAt _ _ _ (upd S.nd i n' i).vs
    rw [upd_same, hn]
    exact set_range_in (h.nd i hi) hj0
  · show World.rangeAt _ _ _ (upd S.nd i0 n' i).vs
    rw [upd_ne _ _ hii]
    exact set_range (h.nd i hi) (by rw [Nd.len]; omega)
theorem tm_qo {w : World} {b : Nat} {S : TS} {T : TypeId} (h : TM T w b S) (i0 j0 : Nat) (hi0 : i0 < 21) (hj0 : j0 < 7) (v : Value) (n' : Qo) (hn : n'.vs = (S.qo i0).vs.set j0 v) (o : Nat) (ho : o = 171 + i0 * 7 + j0) :
    TM T (w.setCell ⟨b, o, none⟩ v) b { S with qo := upd S.qo i0 n' } := by
  subst ho
  refine ⟨set_cell h.root (by omega), set_cell h.lc (by omega), fun i hi => set_range (h.nd i hi) (by rw [Nd.len]; omega), set_cell h.oc (by omega), fun i hi => ?_, fun o => by rw [World.frozen?_setCell]; exact h.fr o, obj_set h.obj⟩
  by_cases hii : i = i0
  · subst hii
    show World.rangeAt _ _ _ (upd S.qo i n' i).vs
    rw [upd_same, hn]
    exact set_range_in (h.qo i hi) hj0
  · show World.rangeAt _ _ _ (upd S.qo i0 n' i).vs
    rw [upd_ne _ _ hii]
    exact set_range (h.qo i hi) (by rw [Qo.len]; omega)
theorem nd_cells {w : World} {b o : Nat} {n : Nd} (h : w.rangeAt b o n.vs) :
    w.cell? ⟨b, o, none⟩ = some (.int .i64 n.side) ∧ w.cell? ⟨b, o + 1, none⟩ = some (.int .i64 n.ticks) ∧ w.cell? ⟨b, o + 2, none⟩ = some (.int .i64 n.qty) ∧ w.cell? ⟨b, o + 3, none⟩ = some (.int .i64 n.count) ∧
    w.cell? ⟨b, o + 4, none⟩ = some (.int .i64 n.be) ∧ w.cell? ⟨b, o + 5, none⟩ = some (.int .i64 n.wo) ∧ w.cell? ⟨b, o + 6, none⟩ = some (.int .i64 n.el) ∧ w.cell? ⟨b, o + 7, none⟩ = some (.int .i64 n.yo) :=
  ⟨h 0 _ rfl, h 1 _ rfl, h 2 _ rfl, h 3 _ rfl, h 4 _ rfl, h 5 _ rfl, h 6 _ rfl, h 7 _ rfl⟩
theorem qo_cells {w : World} {b o : Nat} {n : Qo} (h : w.rangeAt b o n.vs) :
    w.cell? ⟨b, o, none⟩ = some (.int .i64 n.od.id) ∧ w.cell? ⟨b, o + 1, none⟩ = some (.int .i64 n.od.side) ∧ w.cell? ⟨b, o + 2, none⟩ = some (.int .i64 n.od.ticks) ∧ w.cell? ⟨b, o + 3, none⟩ = some (.int .i64 n.od.left) ∧
    w.cell? ⟨b, o + 4, none⟩ = some (.int .i64 n.od.life) ∧ w.cell? ⟨b, o + 5, none⟩ = some (.string n.od.tag) ∧ w.cell? ⟨b, o + 6, none⟩ = some (.int .i64 n.yg) :=
  ⟨h 0 _ rfl, h 1 _ rfl, h 2 _ rfl, h 3 _ rfl, h 4 _ rfl, h 5 _ rfl, h 6 _ rfl⟩
theorem od_cells {w : World} {b o : Nat} {n : Od} (h : w.rangeAt b o n.vs) :
    w.cell? ⟨b, o, none⟩ = some (.int .i64 n.id) ∧ w.cell? ⟨b, o + 1, none⟩ = some (.int .i64 n.side) ∧ w.cell? ⟨b, o + 2, none⟩ = some (.int .i64 n.ticks) ∧ w.cell? ⟨b, o + 3, none⟩ = some (.int .i64 n.left) ∧
    w.cell? ⟨b, o + 4, none⟩ = some (.int .i64 n.life) ∧ w.cell? ⟨b, o + 5, none⟩ = some (.string n.tag) :=
  ⟨h 0 _ rfl, h 1 _ rfl, h 2 _ rfl, h 3 _ rfl, h 4 _ rfl, h 5 _ rfl⟩
/-- The place of a handle, in memory. -/
def Cur.off : Cur → Nat
  | .root => 0
  | .be h => 2 + h * 8 + 4
  | .wo h => 2 + h * 8 + 5
def Cur.ok : Cur → Prop
  | .root => True
  | .be h => h < 21
  | .wo h => h < 21
theorem cur_cell {w : World} {b : Nat} {S : TS} {T : TypeId} (h : TM T w b S) (c : Cur) (hc : c.ok) : w.cell? ⟨b, c.off, none⟩ = some (.int .i64 (S.rd c)) := by
  cases c with
  | root => exact h.root
  | be a => exact (nd_cells (h.nd a hc)).2.2.2.2.1
  | wo a => exact (nd_cells (h.nd a hc)).2.2.2.2.2.1
theorem tm_cur {w : World} {b : Nat} {S : TS} {T : TypeId} (h : TM T w b S) (c : Cur) (hc : c.ok) (n : Nat) : TM T (w.setCell ⟨b, c.off, none⟩ (.int .i64 n)) b (S.wr n c) := by
  cases c with
  | root => exact tm_root h n
  | be a => exact tm_nd h a 4 hc (by omega) (.int .i64 n) { S.nd a with be := n } rfl _ rfl
  | wo a => exact tm_nd h a 5 hc (by omega) (.int .i64 n) { S.nd a with wo := n } rfl _ rfl
theorem upd_upd {α : Type} (f : Nat → α) (i : Nat) (x y : α) : upd (upd f i x) i y = upd f i y := by
  funext j; simp only [upd]; split <;> rfl
theorem cells_made (w : World) (cs : List Value) (t : TypeId) : (w.alloc (Obj.cells cs.toArray t)).rangeAt w.heap.size 0 cs := fun j u h => by
  rw [cell_of_row _ w.heap.size (0 + j) cs.toArray t (0, 0) (heap_alloc_new w _)]
  simpa using h
theorem size_made (w : World) (o : Obj) : (w.alloc o).heap.size = w.heap.size + 1 := by simp
theorem gr_drew {a w : World} {G : Option Nat} (h : a.grownBy w G) : a.grownBy w.drew G := ⟨h.os, h.tape, h.output, h.size, h.block⟩
/-- One operation of a region in whose class of worlds memory may grow. -/
theorem quiet_op {P : Program} {ops : Array Oper} {C : World → Prop} {Q : Act → Prop} {a : Act} {o : Oper} {rest : List Oper} {v : Value} (h1 : Region.wanted o (yielded ops a.tmps) = true) (h2 : ∀ w', C w' → o.quietAt P a C w' v)
    (h3 : ∀ K : Act → Prop, (∀ a, wpQuiet P ops C Q rest a → K a) → K (a.put o.dst v)) : wpQuiet P ops C Q (o :: rest) a :=
  wpQuiet_step fun K hK => by rw [if_pos h1]; exact ⟨v, h2, h3 K hK⟩
/-- A region that draws its order, and in which memory may grow: one walk serves every order. -/
theorem wp_region_grow {P : Program} {id : Nat} {Q : Exit → Act → World → Prop} {a : Act} {w W : World} {l : List Oper} (hm : P.follows .mixedOrders = true) (hB : Region.lexB .any l.toArray = true) (hg : W.grownBy w none)
    (h : wpQuiet P l.toArray (fun w' => W.grownBy w' none) (fun a' => ∀ w', W.grownBy w' none → Q .normal a' w') l a) : (Code.region id l.toArray true).wp P Q a w :=
  wp_region_quiet (C := fun w' => W.grownBy w' none) hm hB ⟨hg.os, hg.tape, hg.output, hg.size, hg.block⟩ (by simpa using h)
theorem gr_setB {a w : World} {b : Nat} (h : a.grownBy w (some b)) (o : Nat) (v : Value) : a.grownBy (w.setCell ⟨b, o, none⟩ v) (some b) :=
  ⟨h.os, h.tape, h.output, by rw [World.setCell]; simpa using h.size, fun k hk hne => (Below.heap_setCell w _ _ k (fun e => hne (by rw [e]))).trans (h.block k hk hne)⟩
theorem grow_eq (S : TS) (cu : Cur) (o : Od) (m : Nat) (hm : m = S.lc + 1) :
    ({ root := ({ S with lc := m }.wr m cu).root, lc := ({ S with lc := m }.wr m cu).lc, oc := ({ S with lc := m }.wr m cu).oc,
       nd := upd ({ S with lc := m }.wr m cu).nd m { (({ S with lc := m }.wr m cu).nd m) with side := o.side, ticks := o.ticks, qty := 0, count := 0 }, qo := ({ S with lc := m }.wr m cu).qo } : TS) = S.grow cu o.side o.ticks := by
  subst hm
  cases cu <;> rfl
/-- On the way to a level: where the pointer stands. -/
def LFI (s : Bool) (b : Nat) (S : TS) (t : Tr) (kk : Int) (W : World) (k : Nat) (p : Value) (wr : World) : Prop :=
  ∃ c u, p = .pointer (some ⟨b, (curOf c).off, none⟩) ∧ u.hs.length ≤ k ∧ Way s S t kk c u ∧ W.grownBy wr none
/-- What is told of the level that was found or grown. -/
def LFEnd (s : Bool) (T : TypeId) (b : Nat) (S : TS) (t : Tr) (o : Od) (w : World) (h : Nat) (w' : World) : Prop :=
  ∃ (S' : TS), TM T w' b S' ∧ w.grownBy w' (some b) ∧
    ((h ∈ t.hs ∧ (S.nd h).ticks = o.ticks ∧ S' = S) ∨ (∃ c u, Way s S t o.ticks c u ∧ S.rd (curOf c) = 0 ∧ h = S.lc + 1 ∧ S' = S.grow (curOf c) o.side o.ticks))
theorem cur_ok {s : Bool} {S : TS} {t : Tr} {k : Int} {c : Ctx} {u : Tr} (hi : TI s S t) (h : Way s S t k c u) (hlc : S.lc < 20) : (curOf c).ok := by
  have hm : ∀ a ∈ cl c ++ cr c, a < 21 := fun a ha => by
    have := hi.range a (by rw [h.plug, plug_hs]; simp at ha ⊢; rcases ha with h | h <;> simp [h])
    omega
  match c, hm with
  | [], _ => trivial
  | (true, a, r) :: c, hm => exact hm a (by simp [cr])
  | (false, a, l) :: c, hm => exact hm a (by simp [cl])
theorem tm_put {w : World} {b : Nat} {S : TS} {T : TypeId} (h : TM T w b S) (i : Nat) (hi : i < 21) (o : Od) :
    TM T (((((((w.setCell ⟨b, 171 + i * 7, none⟩ (.int .i64 o.id)).setCell ⟨b, 171 + i * 7 + 1, none⟩ (.int .i64 o.side)).setCell ⟨b, 171 + i * 7 + 2, none⟩ (.int .i64 o.ticks)).setCell ⟨b, 171 + i * 7 + 3, none⟩ (.int .i64 o.left)).setCell
      ⟨b, 171 + i * 7 + 4, none⟩ (.int .i64 o.life)).setCell ⟨b, 171 + i * 7 + 5, none⟩ (.string o.tag)).setCell ⟨b, 171 + i * 7 + 6, none⟩ (.int .i64 0)) b { S with qo := upd S.qo i ⟨o, 0⟩ } := by
  have h0 := tm_qo h i 0 hi (by omega) (.int .i64 o.id) { (TS.qo _ i) with od := { (TS.qo _ i).od with id := o.id } } rfl _ rfl
  have h1 := tm_qo h0 i 1 hi (by omega) (.int .i64 o.side) { (TS.qo _ i) with od := { (TS.qo _ i).od with side := o.side } } rfl _ rfl
  have h2 := tm_qo h1 i 2 hi (by omega) (.int .i64 o.ticks) { (TS.qo _ i) with od := { (TS.qo _ i).od with ticks := o.ticks } } rfl _ rfl
  have h3 := tm_qo h2 i 3 hi (by omega) (.int .i64 o.left) { (TS.qo _ i) with od := { (TS.qo _ i).od with left := o.left } } rfl _ rfl
  have h4 := tm_qo h3 i 4 hi (by omega) (.int .i64 o.life) { (TS.qo _ i) with od := { (TS.qo _ i).od with life := o.life } } rfl _ rfl
  have h5 := tm_qo h4 i 5 hi (by omega) (.string o.tag) { (TS.qo _ i) with od := { (TS.qo _ i).od with tag := o.tag } } rfl _ rfl
  have h6 := tm_qo h5 i 6 hi (by omega) (.int .i64 0) { (TS.qo _ i) with yg := 0 } rfl _ rfl
  simp only [upd_upd, upd_same] at h6
  exact h6
theorem gr_put {w : World} {b : Nat} (o : Od) (i : Nat) :
    w.grownBy (((((((w.setCell ⟨b, 171 + i * 7, none⟩ (.int .i64 o.id)).setCell ⟨b, 171 + i * 7 + 1, none⟩ (.int .i64 o.side)).setCell ⟨b, 171 + i * 7 + 2, none⟩ (.int .i64 o.ticks)).setCell ⟨b, 171 + i * 7 + 3, none⟩ (.int .i64 o.left)).setCell
      ⟨b, 171 + i * 7 + 4, none⟩ (.int .i64 o.life)).setCell ⟨b, 171 + i * 7 + 5, none⟩ (.string o.tag)).setCell ⟨b, 171 + i * 7 + 6, none⟩ (.int .i64 0)) (some b) :=
  gr_setB (gr_setB (gr_setB (gr_setB (gr_setB (gr_setB (gr_setB (World.grownBy.refl _ _) _ _) _ _) _ _) _ _) _ _) _ _) _ _
theorem lf_lt {s : Bool} {T : TypeId} {b : Nat} {S : TS} {t : Tr} {o : Od} {w w' : World} {h : Nat} (he : LFEnd s T b S t o w h w') (hi : TI s S t) (hlc : S.lc < 20) : (h : Int) < 21 := by
  obtain ⟨S', _, _, ⟨h1, _, _⟩ | ⟨c, u, _, _, h1, _⟩⟩ := he
  · have := (hi.range h h1).2; omega
  · omega
theorem link_eq0 (S : TS) (h m : Nat) (lf : Int) (hy : (S.nd h).yo = 0) :
    ({ S with nd := upd S.nd h { (S.nd h) with qty := (S.nd h).qty + lf, count := (S.nd h).count + 1, el := m, yo := m } } : TS) = S.link h m lf := by
  simp [TS.link, hy]
theorem link_eq1 (S : TS) (h m : Nat) (lf : Int) (hy : ¬ (S.nd h).yo = 0) :
    ({ S with nd := upd S.nd h { (S.nd h) with qty := (S.nd h).qty + lf, count := (S.nd h).count + 1, yo := m }, qo := upd S.qo (S.nd h).yo { S.qo (S.nd h).yo with yg := m } } : TS) = S.link h m lf := by
  simp [TS.link, hy]
theorem gr_drewM {a w w' : World} {G : Option Nat} (h : a.grownBy w G) (h1 : w'.os = w.os) (h2 : w'.tape = w.tape) (h3 : w'.output = w.output) (h4 : w'.heap = w.heap) : a.grownBy w' G :=
  ⟨h1.trans h.os, h2.trans h.tape, h3.trans h.output, by rw [h4]; exact h.size, fun k hk hne => by rw [h4]; exact h.block k hk hne⟩
/-- A tree of orders in block b. -/
def TreeAt (T : TypeId) (s : Bool) (w : World) (b : Nat) (sd : Int) (seq : List Od) : Prop := ∃ S t, TM T w b S ∧ TI s S t ∧ QI S t sd seq ∧ S.lc ≤ seq.length
/-- A block of zero cells is an empty tree. -/
theorem tm_zero (w : World) (Z : Array Value) (T : TypeId) (h0 : Z[0]? = some (.int .i64 0)) (h1 : Z[1]? = some (.int .i64 0)) (h2 : ∀ i, i < 21 → (Z.toList.drop (2 + i * 8)).take 8 = zNd.vs) (h3 : Z[170]? = some (.int .i64 0)) (h4 : ∀ i, i < 21 → (Z.toList.drop (171 + i * 7)).take 7 = zQo.vs) :
    TM T (w.alloc (Obj.cells Z T)) w.heap.size zTS := by
  have hh := heap_alloc_new w (Obj.cells Z T)
  have hcell : ∀ o, (w.alloc (Obj.cells Z T)).cell? ⟨w.heap.size, o, none⟩ = Z[o]? := fun o => cell_of_row _ w.heap.size o Z T (0, 0) hh
  have hrow : ∀ (o n : Nat) (cs : List Value), (Z.toList.drop o).take n = cs → (w.alloc (Obj.cells Z T)).rangeAt w.heap.size o cs := fun o n cs hcs j v hv => by
    rw [hcell, ← hv, ← hcs, List.getElem?_take, List.getElem?_drop, Array.getElem?_toList]
    rw [← hcs, List.getElem?_take] at hv
    split
    · rfl
    · next hj => rw [if_neg hj] at hv; cases hv
  exact ⟨(hcell 0).trans h0, (hcell 1).trans h1, fun i hi => hrow _ 8 _ (h2 i hi), (hcell 170).trans h3, fun i hi => hrow _ 7 _ (h4 i hi), fun o => by simp only [World.frozen?, hh]; simp, Z, hh⟩
theorem treeAt_block {T : TypeId} {s : Bool} {w w' : World} {b : Nat} {sd : Int} {seq : List Od} (h : TreeAt T s w b sd seq) (hb : w'.heap[b]? = w.heap[b]?) : TreeAt T s w' b sd seq := by
  obtain ⟨S, t, h1, h2⟩ := h
  exact ⟨S, t, tm_block h1 hb, h2⟩
theorem treeAt_lt {T : TypeId} {s : Bool} {w : World} {b : Nat} {sd : Int} {seq : List Od} (h : TreeAt T s w b sd seq) : b < w.heap.size := by
  obtain ⟨S, t, h1, _⟩ := h; exact tm_lt h1
theorem sumL_bound : ∀ l : List Od, (∀ o ∈ l, 0 ≤ o.left ∧ o.left ≤ 1000000) → 0 ≤ sumL l ∧ sumL l ≤ 1000000 * l.length
  | [], _ => by simp [sumL]
  | a :: l, h => by
    have h1 := h a (by simp)
    have h2 := sumL_bound l (fun o ho => h o (by simp [ho]))
    simp only [sumL, List.length_cons]
    omega
end Go.Proofs.Ythmgkabpcjkieaa
