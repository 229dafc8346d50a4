/-
  The range of a row of floats, by the program and by the model, walked: both find the same two.
-/
import Derived.Test.YteljmhgpffekgaaFltP
import Derived.Test.YteljmhgpffekgaaFlsB
import Derived.Test.YteljmhgpffekgaaBitS
import Derived.Handy
import Derived.Laws.BitsAllLaws
namespace Go.Proofs.Yteljmhgpffekgaa
open Go.RowKit

/-- One float more: the least and the greatest so far. -/
def rngStep (o : Option (Nat × Nat)) (x : Nat) : Option (Nat × Nat) :=
  if nanB x = true then o else
    match o with
    | none => some (x, x)
    | some (a, b) => some (if rankF x < rankF a then x else a, if rankF b < rankF x then x else b)
def rngO (l : List Nat) : Option (Nat × Nat) := l.foldl rngStep none
theorem rngO_snoc (l : List Nat) (x : Nat) : rngO (l ++ [x]) = rngStep (rngO l) x := by simp [rngO]
theorem rngStep_nan {o : Option (Nat × Nat)} {x : Nat} (h : nanB x = true) : rngStep o x = o := if_pos h
theorem rngStep_none {x : Nat} (h : nanB x = false) : rngStep none x = some (x, x) := if_neg (by rw [h]; decide)
theorem rngStep_some {a b x : Nat} (h : nanB x = false) : rngStep (some (a, b)) x = some (if rankF x < rankF a then x else a, if rankF b < rankF x then x else b) := if_neg (by rw [h]; decide)
/-- Both are floats of the list. -/
def RngOk (o : Option (Nat × Nat)) : Prop := ∀ a b, o = some (a, b) → a < 18446744073709551616 ∧ b < 18446744073709551616 ∧ nanB a = false ∧ nanB b = false
theorem rngOk_step {o : Option (Nat × Nat)} {x : Nat} (h : RngOk o) (hx : x < 18446744073709551616) : RngOk (rngStep o x) := by
  intro a b e
  cases hn : nanB x with
  | true => rw [rngStep_nan hn] at e; exact h a b e
  | false =>
    cases o with
    | none =>
      rw [rngStep_none hn] at e
      cases e
      exact ⟨hx, hx, hn, hn⟩
    | some p =>
      obtain ⟨p, q⟩ := p
      rw [rngStep_some hn] at e
      obtain ⟨h1, h2, h3, h4⟩ := h p q rfl
      simp only [Option.some.injEq, Prod.mk.injEq] at e
      obtain ⟨rfl, rfl⟩ := e
      split <;> split <;> exact ⟨by assumption, by assumption, by assumption, by assumption⟩
theorem rngO_ok {l : List Nat} (h : Fls l) : RngOk (rngO l) := by
  have : ∀ (l : List Nat) (o : Option (Nat × Nat)), Fls l → RngOk o → RngOk (l.foldl rngStep o) := by
    intro l
    induction l with
    | nil => intro o _ ho; exact ho
    | cons x l ih => intro o hl ho; exact ih _ (fun y hy => hl y (List.mem_cons_of_mem _ hy)) (rngOk_step ho (hl x List.mem_cons_self))
  exact this l none h (fun a b e => by cases e)
theorem fls_take {l : List Nat} (h : Fls l) (k : Nat) : Fls (l.take k) := fun x hx => h x (List.mem_of_mem_take hx)

theorem and63 (x : Nat) : x &&& 2 ^ 63 = if x.testBit 63 = true then 2 ^ 63 else 0 := by
  refine Nat.eq_of_testBit_eq fun i => ?_
  rw [Nat.testBit_and, Nat.testBit_two_pow]
  by_cases hi : 63 = i
  · subst hi
    cases x.testBit 63 with
    | false => rfl
    | true => decide
  · rw [show decide (63 = i) = false by simp [hi]]
    split
    · rw [Nat.testBit_two_pow, show decide (63 = i) = false by simp [hi]]; simp
    · simp
theorem and_sign (x : Nat) (h : x < 18446744073709551616) : (bits .and .u64 (x : Int) 9223372036854775808 != 0) = decide (9223372036854775808 ≤ x) := by
  have e : bits .and .u64 (x : Int) ((9223372036854775808 : Nat) : Int) = _ := u64_and_nat x 9223372036854775808 h (by omega)
  rw [show ((9223372036854775808 : Nat) : Int) = (9223372036854775808 : Int) from rfl, show (9223372036854775808 : Nat) = 2 ^ 63 from rfl, and63, Nat.testBit_eq_decide_div_mod_eq] at e
  rw [e]
  by_cases hx : 9223372036854775808 ≤ x
  · have h1 : x / 2 ^ 63 % 2 = 1 := by omega
    simp [h1, hx]
  · have h1 : ¬ x / 2 ^ 63 % 2 = 1 := by omega
    simp [h1, hx]
theorem or_sign (x : Nat) (h : x < 9223372036854775808) : bits .or .u64 (x : Int) 9223372036854775808 = ((x + 9223372036854775808 : Nat) : Int) := by
  have e : bits .or .u64 (x : Int) ((9223372036854775808 : Nat) : Int) = _ := u64_or_nat x 9223372036854775808 (by omega) (by omega)
  rw [show ((9223372036854775808 : Nat) : Int) = (9223372036854775808 : Int) from rfl, Nat.or_comm, nat_join 63 _ _ (by decide) (by omega), Nat.add_comm] at e
  exact e
theorem xor_all (x : Nat) (h : x < 18446744073709551616) : bits .xor .u64 IntKind.u64.max (x : Int) = ((18446744073709551615 - x : Nat) : Int) := by
  have e : bits .xor .u64 ((18446744073709551615 : Nat) : Int) (x : Int) = _ := u64_xor_nat 18446744073709551615 x (by omega) h
  have h1 : 18446744073709551615 ^^^ x = 18446744073709551615 - x := by
    have h2 := BitVec.toNat_not (x := BitVec.ofNat 64 x)
    have h3 : (~~~ (BitVec.ofNat 64 x)).toNat = (BitVec.allOnes 64 ^^^ BitVec.ofNat 64 x).toNat := by rw [BitVec.allOnes_xor]
    rw [BitVec.toNat_xor, BitVec.toNat_allOnes, BitVec.toNat_ofNat, Nat.mod_eq_of_lt (by omega)] at h3
    rw [BitVec.toNat_ofNat, Nat.mod_eq_of_lt (by omega)] at h2
    rw [show (2 : Nat) ^ 64 - 1 = 18446744073709551615 from rfl] at h3
    rw [← h3, h2]
  rw [h1] at e
  exact e

set_option maxRecDepth 100000 in
set_option maxHeartbeats 400000 in
theorem rankOf_any (x : Nat) (w : World) (hx : x < 18446744073709551616) :
    Calls Try.prog 36 #[.float .f64 x] w fun e w' => e = .returned (.int .u64 (rankF x)) ∧ w' = w := by
  have hb := fbits
  by_cases h : 9223372036854775808 ≤ x
  · have ha := and_sign x hx
    have HX : Hid (rankF x = 18446744073709551615 - x) := if_pos h
    go_enter Try.func36, Try.ntmps36
    go_wp2_with fail
    go_ret
    exact ⟨by rw [unhide HX, ← xor_all x hx]; rfl, rfl⟩
  · have ha := and_sign x hx
    have ho := or_sign x (by omega)
    have HX : Hid (rankF x = x + 9223372036854775808) := if_neg h
    go_enter Try.func36, Try.ntmps36
    go_wp2_with fail
    go_ret
    exact ⟨by rw [unhide HX, Int.natCast_add]; rfl, rfl⟩

set_option maxRecDepth 100000 in
set_option maxHeartbeats 400000 in
theorem l07Less_any (a b : Nat) (w : World) (na : nanB a = false) (nb : nanB b = false) :
    Calls Try.prog 54 #[.float .f64 a, .float .f64 b] w fun e w' => e = .returned (.bool (lessF a b)) ∧ w' = w := by
  have ea : fbit a = a := if_neg (by rw [na]; decide)
  have eb : fbit b = b := if_neg (by rw [nb]; decide)
  have HA := hide (fun w => ea ▸ bitsS_any a w)
  have HB := hide (fun w => eb ▸ bitsS_any b w)
  clear ea eb na nb
  cases ha : (FloatKind.f64.format.order a 0 == some Ordering.eq) with
  | false =>
    have HX : Hid (lessF a b = (FloatKind.f64.format.order a b == some Ordering.lt)) := by
      have : lessF a b = (FloatKind.f64.format.order a b == some Ordering.lt) := by unfold lessF; rw [ha]; rfl
      exact this
    go_enter Try.func54, Try.ntmps54
    go_wp2_with fail
    go_ret
    exact ⟨by rw [unhide HX]; rfl, rfl⟩
  | true =>
    cases hb : (FloatKind.f64.format.order b 0 == some Ordering.eq) with
    | false =>
      have HX : Hid (lessF a b = (FloatKind.f64.format.order a b == some Ordering.lt)) := by
        have : lessF a b = (FloatKind.f64.format.order a b == some Ordering.lt) := by unfold lessF; rw [ha, hb]; rfl
        exact this
      go_enter Try.func54, Try.ntmps54
      go_wp2_with fail
      go_ret
      exact ⟨by rw [unhide HX]; rfl, rfl⟩
    | true =>
      have HX : Hid (lessF a b = decide (b < a)) := by
        have : lessF a b = decide (b < a) := by
          unfold lessF; rw [ha, hb]; rfl
        exact this
      go_enter Try.func54, Try.ntmps54
      go_wp2_with fail
      refine (unhide HA _).mono ?_
      rintro e w1 ⟨rfl, rfl⟩
      go_wp2_with fail
      refine (unhide HB _).mono ?_
      rintro e w1 ⟨rfl, rfl⟩
      go_wp2_with fail
      go_ret
      exact ⟨by rw [unhide HX]; rfl, rfl⟩
end Go.Proofs.Yteljmhgpffekgaa
