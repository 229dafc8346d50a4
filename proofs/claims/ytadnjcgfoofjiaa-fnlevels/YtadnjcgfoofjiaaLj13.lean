/-
  The prices of orders in one canonical list, and the queue and the levels by it, as pure data; no function walked.
-/
import Derived.Test.YtadnjcgfoofjiaaLj07
namespace Go.Proofs.Ytadnjcgfoofjiaa
open Go.RowKit

def insT (s : Bool) (k : Int) : List Int → List Int
  | [] => [k]
  | a :: r => if bt s k a then k :: a :: r else if k = a then a :: r else a :: insT s k r
theorem insT_mem (s : Bool) (k x : Int) : ∀ T : List Int, x ∈ insT s k T ↔ x = k ∨ x ∈ T
  | [] => by simp [insT]
  | a :: r => by
    rw [insT]
    split
    · simp
    · split
      · next h => subst h; simp
      · simp [insT_mem s k x r]; constructor
        · rintro (h | h | h) <;> simp [h]
        · rintro (h | h | h) <;> simp [h]
theorem insT_sorted (s : Bool) (k : Int) : ∀ T : List Int, T.Pairwise (bt s) → (insT s k T).Pairwise (bt s)
  | [], _ => by simp [insT]
  | a :: r, h => by
    obtain ⟨p1, p2⟩ := List.pairwise_cons.1 h
    rw [insT]
    split
    · next hk => exact List.pairwise_cons.2 ⟨fun x hx => by
        rcases List.mem_cons.1 hx with rfl | hx
        · exact hk
        · exact bt_trans hk (p1 x hx), h⟩
    · next hk =>
      split
      · exact h
      · next hne =>
        refine List.pairwise_cons.2 ⟨fun x hx => ?_, insT_sorted s k r p2⟩
        rcases (insT_mem s k x r).1 hx with rfl | hx
        · rcases bt_total s x a with h1 | h1 | h1
          · exact absurd h1 hk
          · exact absurd h1 hne
          · exact h1
        · exact p1 x hx
/-- The prices of orders, the best first. -/
def tks (s : Bool) : List Od → List Int
  | [] => []
  | o :: r => insT s o.ticks (tks s r)
theorem isT_tks (s : Bool) : ∀ seq : List Od, IsT s seq (tks s seq)
  | [] => ⟨by simp [tks], by simp [tks]⟩
  | o :: r => by
    have ih := isT_tks s r
    refine ⟨insT_sorted s _ _ ih.sorted, fun k => ?_⟩
    rw [tks, insT_mem, ih.mem]
    constructor
    · rintro (rfl | ⟨o', h1, h2⟩)
      · exact ⟨o, by simp, rfl⟩
      · exact ⟨o', by simp [h1], h2⟩
    · rintro ⟨o', h1, h2⟩
      rcases List.mem_cons.1 h1 with rfl | h1
      · exact .inl h2.symm
      · exact .inr ⟨o', h1, h2⟩
theorem sortedT_unique {s : Bool} : ∀ {A B : List Int}, A.Pairwise (bt s) → B.Pairwise (bt s) → (∀ k, k ∈ A ↔ k ∈ B) → A = B
  | [], B, _, _, h => by
    cases B with
    | nil => rfl
    | cons b r => exact absurd ((h b).2 (by simp)) (by simp)
  | a :: A, [], _, _, h => absurd ((h a).1 (by simp)) (by simp)
  | a :: A, b :: B, hA, hB, h => by
    obtain ⟨p1, p2⟩ := List.pairwise_cons.1 hA
    obtain ⟨q1, q2⟩ := List.pairwise_cons.1 hB
    have hab : a = b := by
      rcases List.mem_cons.1 ((h a).1 (by simp)) with e | e
      · exact e
      · rcases List.mem_cons.1 ((h b).2 (by simp)) with e' | e'
        · exact e'.symm
        · exact absurd (p1 b e') (bt_asymm (q1 a e))
    subst hab
    rw [sortedT_unique p2 q2 fun k => ⟨fun hk => ?_, fun hk => ?_⟩]
    · rcases List.mem_cons.1 ((h k).1 (by simp [hk])) with e | e
      · subst e; exact absurd (p1 _ hk) (bt_irr _ _)
      · exact e
    · rcases List.mem_cons.1 ((h k).2 (by simp [hk])) with e | e
      · subst e; exact absurd (q1 _ hk) (bt_irr _ _)
      · exact e
theorem isT_unique {s : Bool} {seq : List Od} {A : List Int} (hA : IsT s seq A) : A = tks s seq :=
  sortedT_unique hA.sorted (isT_tks s seq).sorted fun k => (hA.mem k).trans ((isT_tks s seq).mem k).symm

/-- A level. -/
structure Lv where
  side : Int
  ticks : Int
  qty : Int
  count : Int
def Lv.vs (n : Lv) : List Value := [.int .i64 n.side, .int .i64 n.ticks, .int .i64 n.qty, .int .i64 n.count]
theorem Lv.len (o : Lv) : o.vs.length = 4 := rfl
def lvAt (sd : Int) (seq : List Od) (k : Int) : Lv := ⟨sd, k, sumL (atK seq k), (atK seq k).length⟩
/-- The levels of a side's orders. -/
def lvsOf (s : Bool) (sd : Int) (seq : List Od) : List Lv := (tks s seq).map (lvAt sd seq)
/-- The orders of a side as they trade. -/
def quOf (s : Bool) (seq : List Od) : List Od := (tks s seq).flatMap (atK seq)
def Nd.lv (n : Nd) : Lv := ⟨n.side, n.ticks, n.qty, n.count⟩
theorem tree_levels {s : Bool} {S : TS} {t : Tr} {sd : Int} {seq : List Od} (hi : TI s S t) (hq : QI S t sd seq) : (t.hs.map fun h => (S.nd h).lv) = lvsOf s sd seq := by
  rw [lvsOf, ← isT_unique (isT_of hi hq), List.map_map]
  refine List.map_congr_left fun h hh => ?_
  have hQ := hq.q h hh
  show Lv.mk _ _ _ _ = Lv.mk _ _ _ _
  rw [hQ.side, hQ.qty, hQ.cnt]
theorem tree_orders {s : Bool} {S : TS} {t : Tr} {sd : Int} {seq : List Od} (hi : TI s S t) (hq : QI S t sd seq) : (t.hs.flatMap fun h => (qs seq (S.nd h).ticks).map fun i => (S.qo i).od) = quOf s seq := by
  rw [quOf, ← isT_unique (isT_of hi hq), List.flatMap_map]
  rw [List.flatMap_def, List.flatMap_def]
  congr 1
  refine List.map_congr_left fun h hh => ?_
  exact qsF_map _ _ seq 1 (fun i o ho => hq.od i o ho)
def zOdv : Value := .agg #[.int .i64 0, .int .i64 0, .int .i64 0, .int .i64 0, .int .i64 0, .string ⟨#[]⟩]
/-- What is told of the front of a queue. -/
def frOf (q : List Od) : Value := match q.head? with
  | some o => .tuple #[o.val, .bool true]
  | none => .tuple #[zOdv, .bool false]
end Go.Proofs.Ytadnjcgfoofjiaa
