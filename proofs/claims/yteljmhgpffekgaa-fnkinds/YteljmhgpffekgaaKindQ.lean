/-
  The kinds and the range of a list of floats: how they hang together; plain facts.
-/
import Derived.Test.YteljmhgpffekgaaKindP
import Derived.Test.YteljmhgpffekgaaRngW
namespace Go.Proofs.Yteljmhgpffekgaa
open Go.RowKit
set_option linter.unusedVariables false

theorem bump_sum (T : Kn) (i : Nat) : (bumpK T i).a + (bumpK T i).b + (bumpK T i).c + (bumpK T i).d + (bumpK T i).e + (bumpK T i).f + (bumpK T i).g = T.a + T.b + T.c + T.d + T.e + T.f + T.g + 1 := by
  unfold bumpK
  (repeat' split) <;> dsimp only <;> omega
/-- What is told of the counts of a list. -/
structure KnL (l : List Nat) (T : Kn) : Prop where
  s : T.a + T.b + T.c + T.d + T.e + T.f + T.g = l.length
  ok : KnOk T l.length
  a : T.a = l.length ↔ ∀ x ∈ l, nanB x = true
  e : 0 < T.e ↔ 9223372036854775808 ∈ l
  cg : T.c + T.g = 0 → ∀ x ∈ l, nanB x = true ∨ x = 9218868437227405312 ∨ x = 0 ∨ x = 9223372036854775808 ∨ tkOk x = true
theorem knL (l : List Nat) (hl : Fls l) : KnL l (kindsL l) := by
  have hgen : ∀ (n : Nat) (l : List Nat), l.length = n → Fls l → KnL l (kindsL l) := by
    intro n
    induction n with
    | zero =>
      intro l h _
      obtain rfl := List.length_eq_zero_iff.1 h
      refine ⟨rfl, by constructor <;> simp [kindsL], by simp [kindsL], by simp [kindsL], by simp⟩
    | succ n ih =>
      intro l h hf
      have hne : l ≠ [] := by intro e; rw [e] at h; simp at h
      obtain ⟨r, x, rfl⟩ : ∃ r x, l = r ++ [x] := ⟨_, _, (List.dropLast_concat_getLast hne).symm⟩
      have hr : r.length = n := by simpa using h
      have hfr : Fls r := fun y hy => hf y (by simp [hy])
      have hx : x < 18446744073709551616 := hf x (by simp)
      obtain ⟨s, ok, ha, he, hcg⟩ := ih r hr hfr
      rw [kindsL_snoc]
      have hs := bump_sum (kindsL r) (kindF x)
      have hk := knOk_bump ok (kindF x)
      have hlen : ((r ++ [x]).length : Int) = (r.length : Int) + 1 := by simp
      have hao := ok.a
      have hbo := ok.b
      have hco := ok.c
      have hdo := ok.d
      have heo := ok.e
      have hfo := ok.f
      have hgo := ok.g
      refine ⟨by rw [hs, hlen, s], by rw [hlen]; exact hk, ?_, ?_, ?_⟩
      · rw [hlen]
        simp only [List.mem_append, List.mem_singleton]
        rcases kind_cases x hx with ⟨k, hn⟩ | h'
        · rw [k]
          have : (bumpK (kindsL r) 0).a = (kindsL r).a + 1 := rfl
          rw [this]
          constructor
          · intro e y hy
            rcases hy with hy | rfl
            · exact ha.1 (by omega) y hy
            · exact hn
          · intro hall
            have := ha.2 (fun y hy => hall y (.inl hy))
            omega
        · have hn : nanB x = false := by
            rcases h' with ⟨_, rfl⟩ | ⟨_, rfl⟩ | ⟨_, rfl⟩ | ⟨_, rfl⟩ | ⟨_, hn, _⟩
            · decide
            · decide
            · decide
            · decide
            · exact hn
          have hne : kindF x ≠ 0 := by
            rcases h' with ⟨k, _⟩ | ⟨k, _⟩ | ⟨k, _⟩ | ⟨k, _⟩ | ⟨⟨k, _⟩ | ⟨k, _⟩, _⟩ <;> rw [k] <;> decide
          have : (bumpK (kindsL r) (kindF x)).a = (kindsL r).a := by
            unfold bumpK
            rw [if_neg hne]
            (repeat' split) <;> rfl
          rw [this]
          constructor
          · intro e; omega
          · intro hall
            have := hall x (.inr rfl)
            rw [hn] at this; cases this
      · simp only [List.mem_append, List.mem_singleton]
        rcases kind_cases x hx with ⟨k, hn⟩ | ⟨k, h'⟩ | ⟨k, h'⟩ | ⟨k, h'⟩ | ⟨k, h'⟩ | ⟨⟨k, _⟩ | ⟨k, _⟩, hn, _, _, _, h'⟩
        · rw [k]
          have hne : (9223372036854775808 : Nat) ≠ x := by intro e; rw [← e] at hn; exact absurd hn (by decide)
          have : (bumpK (kindsL r) 0).e = (kindsL r).e := rfl
          rw [this, he]; simp [hne]
        · rw [k]
          have hne : (9223372036854775808 : Nat) ≠ x := by omega
          have : (bumpK (kindsL r) 1).e = (kindsL r).e := rfl
          rw [this, he]; simp [hne]
        · rw [k]
          have hne : (9223372036854775808 : Nat) ≠ x := by omega
          have : (bumpK (kindsL r) 2).e = (kindsL r).e := rfl
          rw [this, he]; simp [hne]
        · rw [k]
          have hne : (9223372036854775808 : Nat) ≠ x := by omega
          have : (bumpK (kindsL r) 3).e = (kindsL r).e := rfl
          rw [this, he]; simp [hne]
        · rw [k]
          have : (bumpK (kindsL r) 4).e = (kindsL r).e + 1 := rfl
          rw [this]
          exact ⟨fun _ => .inr h'.symm, fun _ => by omega⟩
        · rw [k]
          have hne : (9223372036854775808 : Nat) ≠ x := fun e => h' e.symm
          have : (bumpK (kindsL r) 5).e = (kindsL r).e := rfl
          rw [this, he]; simp [hne]
        · rw [k]
          have hne : (9223372036854775808 : Nat) ≠ x := fun e => h' e.symm
          have : (bumpK (kindsL r) 6).e = (kindsL r).e := rfl
          rw [this, he]; simp [hne]
      · intro hz y hy
        simp only [List.mem_append, List.mem_singleton] at hy
        rcases kind_cases x hx with ⟨k, hn⟩ | ⟨k, h'⟩ | ⟨k, h'⟩ | ⟨k, h'⟩ | ⟨k, h'⟩ | ⟨⟨k, ht⟩ | ⟨k, ht⟩, hn, _, _, _, _⟩
        · rw [k] at hz
          rcases hy with hy | rfl
          · exact hcg hz y hy
          · exact .inl hn
        · rw [k] at hz
          rcases hy with hy | rfl
          · exact hcg hz y hy
          · exact .inr (.inl h')
        · rw [k] at hz
          have h1 : (bumpK (kindsL r) 2).c = (kindsL r).c + 1 := rfl
          have h2 : (bumpK (kindsL r) 2).g = (kindsL r).g := rfl
          omega
        · rw [k] at hz
          rcases hy with hy | rfl
          · exact hcg hz y hy
          · exact .inr (.inr (.inl h'))
        · rw [k] at hz
          rcases hy with hy | rfl
          · exact hcg hz y hy
          · exact .inr (.inr (.inr (.inl h')))
        · rw [k] at hz
          rcases hy with hy | rfl
          · exact hcg hz y hy
          · exact .inr (.inr (.inr (.inr ht)))
        · rw [k] at hz
          have h1 : (bumpK (kindsL r) 6).c = (kindsL r).c := rfl
          have h2 : (bumpK (kindsL r) 6).g = (kindsL r).g + 1 := rfl
          omega
  exact hgen _ l rfl hl

/-- What a list's range is, without an order. -/
structure RngIs (l : List Nat) (o : Option (Nat × Nat)) : Prop where
  n : o = none → ∀ x ∈ l, nanB x = true
  s : ∀ p q, o = some (p, q) → (p ∈ l ∧ nanB p = false ∧ q ∈ l ∧ nanB q = false) ∧ ∀ x ∈ l, nanB x = false → rankF p ≤ rankF x ∧ rankF x ≤ rankF q
theorem rngIs (l : List Nat) : RngIs l (rngO l) := by
  have hgen : ∀ (n : Nat) (l : List Nat), l.length = n → RngIs l (rngO l) := by
    intro n
    induction n with
    | zero =>
      intro l h
      obtain rfl := List.length_eq_zero_iff.1 h
      exact ⟨fun _ x hx => by simp at hx, fun p q h => by simp [rngO] at h⟩
    | succ n ih =>
      intro l h
      have hne : l ≠ [] := by intro e; rw [e] at h; simp at h
      obtain ⟨r, x, rfl⟩ : ∃ r x, l = r ++ [x] := ⟨_, _, (List.dropLast_concat_getLast hne).symm⟩
      obtain ⟨hn, hs⟩ := ih r (by simpa using h)
      rw [rngO_snoc]
      cases hx : nanB x with
      | true =>
        rw [rngStep_nan hx]
        refine ⟨fun ho y hy => ?_, fun p q ho => ?_⟩
        · simp only [List.mem_append, List.mem_singleton] at hy
          rcases hy with hy | rfl
          · exact hn ho y hy
          · exact hx
        · obtain ⟨⟨h1, h2, h3, h4⟩, h5⟩ := hs p q ho
          refine ⟨⟨by simp [h1], h2, by simp [h3], h4⟩, fun y hy hny => ?_⟩
          simp only [List.mem_append, List.mem_singleton] at hy
          rcases hy with hy | rfl
          · exact h5 y hy hny
          · rw [hx] at hny; cases hny
      | false =>
        cases ho : rngO r with
        | none =>
          rw [rngStep_none hx]
          refine ⟨fun h => by simp at h, fun p q h => ?_⟩
          simp only [Option.some.injEq, Prod.mk.injEq] at h
          obtain ⟨rfl, rfl⟩ := h
          refine ⟨⟨by simp, hx, by simp, hx⟩, fun y hy hny => ?_⟩
          simp only [List.mem_append, List.mem_singleton] at hy
          rcases hy with hy | rfl
          · rw [hn ho y hy] at hny; cases hny
          · exact ⟨Nat.le_refl _, Nat.le_refl _⟩
        | some pq =>
          obtain ⟨p0, q0⟩ := pq
          rw [rngStep_some hx]
          obtain ⟨⟨h1, h2, h3, h4⟩, h5⟩ := hs p0 q0 ho
          refine ⟨fun h => by simp at h, fun p q h => ?_⟩
          simp only [Option.some.injEq, Prod.mk.injEq] at h
          obtain ⟨rfl, rfl⟩ := h
          refine ⟨⟨?_, ?_, ?_, ?_⟩, fun y hy hny => ?_⟩
          · split <;> simp [h1]
          · split <;> assumption
          · split <;> simp [h3]
          · split <;> assumption
          · simp only [List.mem_append, List.mem_singleton] at hy
            have h6 : rankF p0 ≤ rankF q0 := (h5 p0 h1 h2).2
            rcases hy with hy | rfl
            · have h7 := h5 y hy hny
              split <;> split <;> omega
            · split <;> split <;> omega
  exact hgen _ l rfl
theorem rank_inj {a b : Nat} (ha : a < 18446744073709551616) (hb : b < 18446744073709551616) (h : rankF a = rankF b) : a = b := by
  unfold rankF at h
  split at h <;> split at h <;> omega
theorem rngO_reverse (l : List Nat) (hf : Fls l) : rngO l.reverse = rngO l := by
  have h1 := rngIs l
  have h2 := rngIs l.reverse
  cases o1 : rngO l with
  | none =>
    cases o2 : rngO l.reverse with
    | none => rfl
    | some pq =>
      obtain ⟨p, q⟩ := pq
      obtain ⟨⟨a1, a2, _⟩, _⟩ := h2.s p q o2
      have := h1.n o1 p (by simpa using a1)
      rw [this] at a2; cases a2
  | some pq =>
    obtain ⟨p, q⟩ := pq
    obtain ⟨⟨a1, a2, a3, a4⟩, a5⟩ := h1.s p q o1
    cases o2 : rngO l.reverse with
    | none =>
      have := h2.n o2 p (by simpa using a1)
      rw [this] at a2; cases a2
    | some rs =>
      obtain ⟨r, s⟩ := rs
      obtain ⟨⟨b1, b2, b3, b4⟩, b5⟩ := h2.s r s o2
      have b1' : r ∈ l := by simpa using b1
      have b3' : s ∈ l := by simpa using b3
      have c1 := a5 r b1' b2
      have c2 := a5 s b3' b4
      have c3 := b5 p (by simpa using a1) a2
      have c4 := b5 q (by simpa using a3) a4
      rw [rank_inj (hf r b1') (hf p a1) (by omega), rank_inj (hf s b3') (hf q a3) (by omega)]
theorem low_high {l : List Nat} (hf : Fls l) {p q : Nat} (h : rngO l = some (p, q)) : (FloatKind.f64.format.order p q == some Ordering.gt) = false := by
  obtain ⟨⟨a1, a2, a3, a4⟩, a5⟩ := (rngIs l).s p q h
  have hpq := (a5 p a1 a2).2
  have o : FloatKind.f64.format.order p q = _ := order_key p q a2 a4
  rw [o, beq_eq_false_iff_ne]
  intro e
  have hgt := Std.compare_eq_gt.1 (Option.some.inj e)
  have hp := hf p a1
  have hq := hf q a3
  unfold rankF at hpq
  unfold keyF at hgt
  split at hpq <;> split at hpq <;> split at hgt <;> split at hgt <;> omega
theorem tk_pos {x : Nat} (hx : x < 18446744073709551616) (hn : nanB x = false) (h : tkOk x = true) : 0 < x ∧ x < 9223372036854775808 := by
  have h0 : FloatKind.f64.format.order x 0 = some Ordering.gt := by
    unfold tkOk at h
    rw [Bool.and_eq_true, Bool.and_eq_true] at h
    exact eq_of_beq h.1.1
  have o : FloatKind.f64.format.order x 0 = _ := order_key x 0 hn (by decide)
  rw [h0, show keyF 0 = 0 by decide] at o
  have hgt := Std.compare_eq_gt.1 (Option.some.inj o).symm
  unfold keyF at hgt
  split at hgt <;> omega
theorem minus_low {l : List Nat} (hf : Fls l) {p q : Nat} (h : rngO l = some (p, q)) (hm : 9223372036854775808 ∈ l) (hall : ∀ x ∈ l, nanB x = true ∨ x = 9218868437227405312 ∨ x = 0 ∨ x = 9223372036854775808 ∨ tkOk x = true) : p = 9223372036854775808 := by
  obtain ⟨⟨a1, a2, a3, a4⟩, a5⟩ := (rngIs l).s p q h
  have h1 := (a5 _ hm (by decide)).1
  have hp := hf p a1
  rcases hall p a1 with h' | rfl | rfl | h' | h'
  · rw [h'] at a2; cases a2
  · exact absurd h1 (by decide)
  · exact absurd h1 (by decide)
  · exact h'
  · have := tk_pos hp a2 h'
    unfold rankF at h1
    split at h1 <;> split at h1 <;> omega
end Go.Proofs.Yteljmhgpffekgaa
