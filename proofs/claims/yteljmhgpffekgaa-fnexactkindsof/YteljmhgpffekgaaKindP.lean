/-
  The kinds of floats: which float is of which, and how they are counted; plain facts.
-/
import Derived.Test.YteljmhgpffekgaaFltP
import Derived.Test.YteljmhgpffekgaaFlsB
import Derived.Test.YteljmhgpffekgaaEngA
namespace Go.Proofs.Yteljmhgpffekgaa
open Go.RowKit
set_option linter.unusedVariables false

/-- How many floats of each kind. -/
structure Kn where
  a : Int
  b : Int
  c : Int
  d : Int
  e : Int
  f : Int
  g : Int

def Kn.vs (T : Kn) : List Value := [.int .i64 T.a, .int .i64 T.b, .int .i64 T.c, .int .i64 T.d, .int .i64 T.e, .int .i64 T.f, .int .i64 T.g]
def bumpK (T : Kn) (i : Nat) : Kn :=
  if i = 0 then { T with a := T.a + 1 } else
  if i = 1 then { T with b := T.b + 1 } else
  if i = 2 then { T with c := T.c + 1 } else
  if i = 3 then { T with d := T.d + 1 } else
  if i = 4 then { T with e := T.e + 1 } else
  if i = 5 then { T with f := T.f + 1 } else
  { T with g := T.g + 1 }
def kindF (x : Nat) : Nat :=
  if nanB x = true then 0 else if x = 9218868437227405312 then 1 else if x = 18442240474082181120 then 2 else if x = 0 then 3 else if x = 9223372036854775808 then 4 else if tkOk x = true then 5 else 6
def kindsL (l : List Nat) : Kn := l.foldl (fun T x => bumpK T (kindF x)) ⟨0, 0, 0, 0, 0, 0, 0⟩
theorem kindsL_snoc (l : List Nat) (x : Nat) : kindsL (l ++ [x]) = bumpK (kindsL l) (kindF x) := by simp [kindsL]
structure KnOk (T : Kn) (n : Int) : Prop where
  a : 0 ≤ T.a ∧ T.a ≤ n
  b : 0 ≤ T.b ∧ T.b ≤ n
  c : 0 ≤ T.c ∧ T.c ≤ n
  d : 0 ≤ T.d ∧ T.d ≤ n
  e : 0 ≤ T.e ∧ T.e ≤ n
  f : 0 ≤ T.f ∧ T.f ≤ n
  g : 0 ≤ T.g ∧ T.g ≤ n

theorem knOk_bump {T : Kn} {n : Int} (h : KnOk T n) (i : Nat) : KnOk (bumpK T i) (n + 1) := by
  obtain ⟨h0, h1, h2, h3, h4, h5, h6⟩ := h
  unfold bumpK
  constructor <;> (repeat' split) <;> dsimp only <;> omega
theorem knOk_take (l : List Nat) : ∀ k, k ≤ l.length → KnOk (kindsL (l.take k)) k := by
  intro k
  induction k with
  | zero => intro _; simp [kindsL]; constructor <;> simp
  | succ k ih =>
    intro hk
    rw [takeF_get l k (by omega), kindsL_snoc]
    have := knOk_bump (ih (by omega)) (kindF (l.getD k 0))
    simpa using this
/-- A float is of one of the seven kinds. -/
theorem kind_cases (x : Nat) (hx : x < 18446744073709551616) :
    (kindF x = 0 ∧ nanB x = true) ∨ (kindF x = 1 ∧ x = 9218868437227405312) ∨ (kindF x = 2 ∧ x = 18442240474082181120) ∨ (kindF x = 3 ∧ x = 0) ∨ (kindF x = 4 ∧ x = 9223372036854775808) ∨
    ((kindF x = 5 ∧ tkOk x = true ∨ kindF x = 6 ∧ tkOk x = false) ∧ nanB x = false ∧ x ≠ 9218868437227405312 ∧ x ≠ 18442240474082181120 ∧ x ≠ 0 ∧ x ≠ 9223372036854775808) := by
  unfold kindF
  cases hn : nanB x
  · simp only [Bool.false_eq_true, if_false]
    by_cases h1 : x = 9218868437227405312
    · simp [h1]
    · by_cases h2 : x = 18442240474082181120
      · simp [h2]
      · by_cases h3 : x = 0
        · simp [h3]
        · by_cases h4 : x = 9223372036854775808
          · simp [h4]
          · cases ht : tkOk x <;> simp [h1, h2, h3, h4]
  · simp
/-- A float that is neither NaN, infinite nor nought: it less itself is nought, and it is not nought. -/
theorem plain_sub {x : Nat} (hx : x < 18446744073709551616) (hn : nanB x = false) (h1 : x ≠ 9218868437227405312) (h2 : x ≠ 18442240474082181120) : FloatKind.f64.format.sub x x = some 0 := by
  have h : ¬ (9218868437227405312 < x % 9223372036854775808) := fun h => by rw [(nan_rung x).2 h] at hn; cases hn
  exact sub_self x (by omega)
theorem plain_zero {x : Nat} (hx : x < 18446744073709551616) (hn : nanB x = false) (h3 : x ≠ 0) (h4 : x ≠ 9223372036854775808) : (FloatKind.f64.format.order x 0 == some Ordering.eq) = false := by
  have o : FloatKind.f64.format.order x 0 = _ := order_key x 0 hn (by decide)
  rw [o, show keyF 0 = 0 by decide]
  rw [beq_eq_false_iff_ne]
  intro h
  have h' := Std.LawfulEqCmp.eq_of_compare (Option.some.inj h)
  unfold keyF at h'
  split at h' <;> omega
end Go.Proofs.Yteljmhgpffekgaa
