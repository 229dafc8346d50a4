/-
  The prices of orders in one canonical list, and the queue and the levels by it, as pure data; no function walked.
-/
import Derived.Test.YteljmhgpffekgaaFj07
import Derived.Deep.RegionWith
namespace Go.Proofs.Yteljmhgpffekgaa
open Go.RowKit

def insT (s : Bool) (k : Int) : List Int → List Int
  | [] => [k]
  | a :: r => if bt s k a then k :: a :: r else if k = a then a :: r else a :: insT s k r
theorem insT_mem (s : Bool) (k x : Int) : ∀ T : List Int, x ∈ insT s k T ↔ x = k ∨ x ∈ T
  | [] => by simp [insT]
  | a :: r => by
    rw [insT]
    split
    · simp
    · split
      · next h => subst h; simp
      · simp [insT_mem s k x r]; constructor
        · rintro (h | h | h) <;> simp [h]
        · rintro (h | h | h) <;> simp [h]
theorem insT_sorted (s : Bool) (k : Int) : ∀ T : List Int, T.Pairwise (bt s) → (insT s k T).Pairwise (bt s)
  | [], _ => by simp [insT]
  | a :: r, h => by
    obtain ⟨p1, p2⟩ := List.pairwise_cons.1 h
    rw [insT]
    split
    · next hk => exact List.pairwise_cons.2 ⟨fun x hx => by
        rcases List.mem_cons.1 hx with rfl | hx
        · exact hk
        · exact bt_trans hk (p1 x hx), h⟩
    · next hk =>
      split
      · exact h
      · next hne =>
        refine List.pairwise_cons.2 ⟨fun x hx => ?_, insT_sorted s k r p2⟩
        rcases (insT_mem s k x r).1 hx with rfl | hx
        · rcases bt_total s x a with h1 | h1 | h1
          · exact absurd h1 hk
          · exact absurd h1 hne
          · exact h1
        · exact p1 x hx
/-- The prices of orders, the best first. -/
def tks (s : Bool) : List Od → List Int
  | [] => []
  | o :: r => insT s o.ticks (tks s r)
theorem isT_tks (s : Bool) : ∀ seq : List Od, IsT s seq (tks s seq)
  | [] => ⟨by simp [tks], by simp [tks]⟩
  | o :: r => by
    have ih := isT_tks s r
    refine ⟨insT_sorted s _ _ ih.sorted, fun k => ?_⟩
    rw [tks, insT_mem, ih.mem]
    constructor
    · rintro (rfl | ⟨o', h1, h2⟩)
      · exact ⟨o, by simp, rfl⟩
      · exact ⟨o', by simp [h1], h2⟩
    · rintro ⟨o', h1, h2⟩
      rcases List.mem_cons.1 h1 with rfl | h1
      · exact .inl h2.symm
      · exact .inr ⟨o', h1, h2⟩
theorem sortedT_unique {s : Bool} : ∀ {A B : List Int}, A.Pairwise (bt s) → B.Pairwise (bt s) → (∀ k, k ∈ A ↔ k ∈ B) → A = B
  | [], B, _, _, h => by
    cases B with
    | nil => rfl
    | cons b r => exact absurd ((h b).2 (by simp)) (by simp)
  | a :: A, [], _, _, h => absurd ((h a).1 (by simp)) (by simp)
  | a :: A, b :: B, hA, hB, h => by
    obtain ⟨p1, p2⟩ := List.pairwise_cons.1 hA
    obtain ⟨q1, q2⟩ := List.pairwise_cons.1 hB
    have hab : a = b := by
      rcases List.mem_cons.1 ((h a).1 (by simp)) with e | e
      · exact e
      · rcases List.mem_cons.1 ((h b).2 (by simp)) with e' | e'
        · exact e'.symm
        · exact absurd (p1 b e') (bt_asymm (q1 a e))
    subst hab
    rw [sortedT_unique p2 q2 fun k => ⟨fun hk => ?_, fun hk => ?_⟩]
    · rcases List.mem_cons.1 ((h k).1 (by simp [hk])) with e | e
      · subst e; exact absurd (p1 _ hk) (bt_irr _ _)
      · exact e
    · rcases List.mem_cons.1 ((h k).2 (by simp [hk])) with e | e
      · subst e; exact absurd (q1 _ hk) (bt_irr _ _)
      · exact e
theorem isT_unique {s : Bool} {seq : List Od} {A : List Int} (hA : IsT s seq A) : A = tks s seq :=
  sortedT_unique hA.sorted (isT_tks s seq).sorted fun k => (hA.mem k).trans ((isT_tks s seq).mem k).symm

/-- A level. -/
structure Lv where
  side : Int
  ticks : Int
  qty : Int
  count : Int
def Lv.vs (n : Lv) : List Value := [.int .i64 n.side, .int .i64 n.ticks, .int .i64 n.qty, .int .i64 n.count]
theorem Lv.len (o : Lv) : o.vs.length = 4 := rfl
def lvAt (sd : Int) (seq : List Od) (k : Int) : Lv := ⟨sd, k, sumL (atK seq k), (atK seq k).length⟩
/-- The levels of a side's orders. -/
def lvsOf (s : Bool) (sd : Int) (seq : List Od) : List Lv := (tks s seq).map (lvAt sd seq)
/-- The orders of a side as they trade. -/
def quOf (s : Bool) (seq : List Od) : List Od := (tks s seq).flatMap (atK seq)
def Nd.lv (n : Nd) : Lv := ⟨n.side, n.ticks, n.qty, n.count⟩
theorem tree_levels {s : Bool} {S : TS} {t : Tr} {sd : Int} {seq : List Od} (hi : TI s S t) (hq : QI S t sd seq) : (t.hs.map fun h => (S.nd h).lv) = lvsOf s sd seq := by
  rw [lvsOf, ← isT_unique (isT_of hi hq), List.map_map]
  refine List.map_congr_left fun h hh => ?_
  have hQ := hq.q h hh
  show Lv.mk _ _ _ _ = Lv.mk _ _ _ _
  rw [hQ.side, hQ.qty, hQ.cnt]
theorem tree_orders {s : Bool} {S : TS} {t : Tr} {sd : Int} {seq : List Od} (hi : TI s S t) (hq : QI S t sd seq) : (t.hs.flatMap fun h => (qs seq (S.nd h).ticks).map fun i => (S.qo i).od) = quOf s seq := by
  rw [quOf, ← isT_unique (isT_of hi hq), List.flatMap_map]
  rw [List.flatMap_def, List.flatMap_def]
  congr 1
  refine List.map_congr_left fun h hh => ?_
  exact qsF_map _ _ seq 1 (fun i o ho => hq.od i o ho)
def zOdv : Value := .agg #[.int .i64 0, .int .i64 0, .int .i64 0, .int .i64 0, .int .i64 0, .string ⟨#[]⟩]
/-- What is told of the front of a queue. -/
def frOf (q : List Od) : Value := match q.head? with
  | some o => .tuple #[o.val, .bool true]
  | none => .tuple #[zOdv, .bool false]
end Go.Proofs.Yteljmhgpffekgaa
namespace Go.Proofs.Yteljmhgpffekgaa
open Go.RowKit
set_option linter.unusedVariables false

theorem there1O {w : World} {b o n : Nat} (h : w.there b o n) (j : Nat) (hj : j < n) : ∃ v, w.cell? ⟨b, o + j, none⟩ = some v ∧ w.frozen? ⟨b, o + j, none⟩ = false := by
  obtain ⟨v, hv⟩ := Option.isSome_iff_exists.1 (h j hj).1
  exact ⟨v, hv, (h j hj).2⟩
theorem there6 {w : World} {b o : Nat} (h : w.there b o 6) :
    (∃ v, w.cell? ⟨b, o, none⟩ = some v ∧ w.frozen? ⟨b, o, none⟩ = false) ∧ (∃ v, w.cell? ⟨b, o + 1, none⟩ = some v ∧ w.frozen? ⟨b, o + 1, none⟩ = false) ∧
    (∃ v, w.cell? ⟨b, o + 2, none⟩ = some v ∧ w.frozen? ⟨b, o + 2, none⟩ = false) ∧ (∃ v, w.cell? ⟨b, o + 3, none⟩ = some v ∧ w.frozen? ⟨b, o + 3, none⟩ = false) ∧
    (∃ v, w.cell? ⟨b, o + 4, none⟩ = some v ∧ w.frozen? ⟨b, o + 4, none⟩ = false) ∧ (∃ v, w.cell? ⟨b, o + 5, none⟩ = some v ∧ w.frozen? ⟨b, o + 5, none⟩ = false) :=
  ⟨there1O h 0 (by omega), there1O h 1 (by omega), there1O h 2 (by omega), there1O h 3 (by omega), there1O h 4 (by omega), there1O h 5 (by omega)⟩
theorem takeR {α : Type} (l : List α) (k : Nat) (c : α) (h : l[k]? = some c) : l.take (k + 1) = l.take k ++ [c] := by
  obtain ⟨hk, rfl⟩ := List.getElem?_eq_some_iff.1 h
  rw [List.take_succ_eq_append_getElem hk]

theorem ownR_base {α : Type} {f : α → List Value} {sz B B' : Nat} {w : World} {v : Value} {l : List α} (h : OwnR f sz B w v l) (hB : B' ≤ B) : OwnR f sz B' w v l := by
  obtain ⟨a, cap, rfl, hl, h⟩ := h
  refine ⟨a, cap, rfl, hl, fun hne => ?_⟩
  obtain ⟨g, e1, e2, e3⟩ := h hne
  exact ⟨g, e1, Nat.le_trans hB e2, e3⟩
theorem ownR_set {α : Type} {f : α → List Value} {sz B : Nat} {w : World} {v : Value} {l : List α} (h : OwnR f sz B w v l) {b : Nat} (hb : b < B) (o : Nat) (u : Value) : OwnR f sz B (w.setCell ⟨b, o, none⟩ u) v l := by
  obtain ⟨a, cap, rfl, hl, h⟩ := h
  refine ⟨a, cap, rfl, hl, fun hne => ?_⟩
  obtain ⟨g, e1, e2, e3, e4, e5⟩ := h hne
  have hne' : g ≠ b := by omega
  have hbl := Below.heap_setCell w ⟨b, o, none⟩ u g hne'
  refine ⟨g, e1, e2, by rw [World.setCell]; simpa using e3, fun i c hc j x hx => (World.cell?_of_block (a := ⟨g, 0 + i * sz + j, none⟩) hbl).trans (e4 i c hc j x hx), fun j hj => ?_⟩
  exact ⟨by rw [World.cell?_of_block (a := ⟨g, 0 + j, none⟩) hbl]; exact (e5 j hj).1, by rw [World.frozen?_of_block (a := ⟨g, 0 + j, none⟩) hbl]; exact (e5 j hj).2⟩

theorem Try.infoOrder : (Try.prog.info? 93).map (fun i => (i.zero, i.size, i.bytes)) = some (some (.agg #[.int .i64 0, .int .i64 0, .int .i64 0, .int .i64 0, .int .i64 0, .string ⟨#[]⟩]), 6, 56) := by kernel_rfl

/-- A book: its next number, and the slice of its orders. -/
def BookV (n : Int) (v : Value) : Value := .agg #[.int .i64 n, v]
end Go.Proofs.Yteljmhgpffekgaa
