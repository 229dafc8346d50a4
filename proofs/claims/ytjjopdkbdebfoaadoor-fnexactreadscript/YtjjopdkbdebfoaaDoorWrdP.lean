/-
  Words of a line, numbers' texts and prices' texts, as functions over lists of bytes; no function walked.
-/
import Derived.Test.YtjjopdkbdebfoaaDoorBase
import Derived.Lib.Bytealg
namespace Go.Proofs.YtjjopdkbdebfoaaDoor
open Go.RowKit

/-- The pieces of bytes between those that are c. -/
def pcs (c : UInt8) : List UInt8 → List (List UInt8)
  | [] => [[]]
  | b :: l => if b = c then [] :: pcs c l else match pcs c l with
    | p :: ps => (b :: p) :: ps
    | [] => [[b]]
theorem pcs_ne (c : UInt8) (l : List UInt8) : ∃ p ps, pcs c l = p :: ps := by
  cases l with
  | nil => exact ⟨[], [], rfl⟩
  | cons b l =>
    unfold pcs
    split
    · exact ⟨_, _, rfl⟩
    · split
      · exact ⟨_, _, rfl⟩
      · exact ⟨_, _, rfl⟩
theorem ib_cons (b c : UInt8) (l : List UInt8) : Lib.indexByte (b :: l) c = if b = c then 0 else if Lib.indexByte l c = -1 then -1 else Lib.indexByte l c + 1 := by
  rw [Lib.indexByte]
  simp
theorem pcs_miss (c : UInt8) : ∀ (l : List UInt8), Lib.indexByte l c = -1 → pcs c l = [l] ∧ l.count c = 0
  | [], _ => ⟨rfl, rfl⟩
  | b :: l, h => by
    rw [ib_cons] at h
    by_cases hb : b = c
    · rw [if_pos hb] at h; omega
    · rw [if_neg hb] at h
      have h1 : Lib.indexByte l c = -1 := by
        by_cases h2 : Lib.indexByte l c = -1
        · exact h2
        · rw [if_neg h2] at h
          have := Lib.indexByte_ge l c
          omega
      obtain ⟨h3, h4⟩ := pcs_miss c l h1
      rw [pcs, if_neg hb, h3, List.count_cons_of_ne (fun e => hb e)]
      exact ⟨rfl, h4⟩
theorem pcs_hit (c : UInt8) : ∀ (l : List UInt8) (m : Nat), Lib.indexByte l c = m → pcs c l = l.take m :: pcs c (l.drop (m + 1)) ∧ l.count c = (l.drop (m + 1)).count c + 1 ∧ m < l.length
  | [], m, h => by rw [Lib.indexByte] at h; omega
  | b :: l, m, h => by
    rw [ib_cons] at h
    by_cases hb : b = c
    · rw [if_pos hb] at h
      obtain rfl : m = 0 := by omega
      subst hb
      rw [pcs, if_pos rfl]
      simp
    · rw [if_neg hb] at h
      have hg := Lib.indexByte_ge l c
      by_cases h2 : Lib.indexByte l c = -1
      · rw [if_pos h2] at h; omega
      · rw [if_neg h2] at h
        obtain ⟨k, rfl⟩ : ∃ k, m = k + 1 := ⟨m - 1, by omega⟩
        obtain ⟨h3, h4, h5⟩ := pcs_hit c l k (by omega)
        rw [pcs, if_neg hb, h3, List.count_cons_of_ne (fun e => hb e)]
        exact ⟨rfl, h4, by simp; omega⟩
theorem ib_cases (l : List UInt8) (c : UInt8) : Lib.indexByte l c = -1 ∨ ∃ m : Nat, Lib.indexByte l c = m := by
  have := Lib.indexByte_ge l c
  by_cases h : Lib.indexByte l c = -1
  · exact .inl h
  · exact .inr ⟨(Lib.indexByte l c).toNat, by omega⟩

/-- The words: what stands so far of one, and what comes. -/
def goW (c : UInt8) (cur : List UInt8) : List UInt8 → List (List UInt8)
  | [] => if cur = [] then [] else [cur]
  | b :: l => if b = c then (if cur = [] then goW c [] l else cur :: goW c [] l) else goW c (cur ++ [b]) l
def neB (l : List UInt8) : Bool := !l.isEmpty
theorem neB_nil : neB [] = false := rfl
theorem neB_ne {l : List UInt8} (h : l ≠ []) : neB l = true := by cases l with
  | nil => exact absurd rfl h
  | cons a l => rfl
theorem goW_pcs (c : UInt8) : ∀ (l cur p : List UInt8) (ps : List (List UInt8)), pcs c l = p :: ps → goW c cur l = ((cur ++ p) :: ps).filter neB
  | [], cur, p, ps, h => by
    simp only [pcs, List.cons.injEq] at h
    obtain ⟨rfl, rfl⟩ := h
    rw [goW, List.append_nil]
    by_cases hc : cur = []
    · subst hc; rfl
    · rw [if_neg hc, List.filter_cons_of_pos (neB_ne hc)]; rfl
  | b :: l, cur, p, ps, h => by
    obtain ⟨q, qs, hq⟩ := pcs_ne c l
    unfold pcs at h
    rw [hq] at h
    by_cases hb : b = c
    · rw [if_pos hb] at h
      simp only [List.cons.injEq] at h
      obtain ⟨rfl, rfl⟩ := h
      rw [goW, if_pos hb, List.append_nil, goW_pcs c l [] q qs hq, List.nil_append]
      by_cases hc : cur = []
      · subst hc; rw [if_pos rfl]; rfl
      · rw [if_neg hc, List.filter_cons_of_pos (neB_ne hc)]
    · rw [if_neg hb] at h
      simp only [List.cons.injEq] at h
      obtain ⟨rfl, rfl⟩ := h
      rw [goW, if_neg hb, goW_pcs c l (cur ++ [b]) q qs hq, List.append_assoc]
      rfl
/-- The words of a line. -/
def wds (l : List UInt8) : List (List UInt8) := goW 32 [] l
theorem wds_pcs (l : List UInt8) : wds l = (pcs 32 l).filter neB := by
  obtain ⟨p, ps, h⟩ := pcs_ne 32 l
  rw [wds, goW_pcs 32 l [] p ps h, h, List.nil_append]
theorem goW_ne (c : UInt8) : ∀ (l cur : List UInt8) (x : List UInt8), x ∈ goW c cur l → x ≠ []
  | [], cur, x, h => by
    unfold goW at h
    split at h
    · simp at h
    · rename_i hc; simp at h; subst h; exact hc
  | b :: l, cur, x, h => by
    unfold goW at h
    split at h
    · split at h
      · exact goW_ne c l [] x h
      · rename_i hc
        rcases List.mem_cons.1 h with rfl | h
        · exact hc
        · exact goW_ne c l [] x h
    · exact goW_ne c l _ x h
theorem goW_len (c : UInt8) : ∀ (l cur : List UInt8), (goW c cur l).length ≤ l.length + 1
  | [], cur => by unfold goW; split <;> simp
  | b :: l, cur => by
    unfold goW
    have h1 := goW_len c l []
    have h2 := goW_len c l (cur ++ [b])
    split
    · split
      · simp; omega
      · simp; omega
    · simp; omega
theorem goW_mem (c : UInt8) : ∀ (l cur x : List UInt8), x ∈ goW c cur l → x.length ≤ cur.length + l.length
  | [], cur, x, h => by
    unfold goW at h
    split at h
    · simp at h
    · simp at h; subst h; simp
  | b :: l, cur, x, h => by
    unfold goW at h
    split at h
    · split at h
      · have := goW_mem c l [] x h; simp at this ⊢; omega
      · rcases List.mem_cons.1 h with rfl | h
        · simp
        · have := goW_mem c l [] x h; simp at this ⊢; omega
    · have := goW_mem c l _ x h; simp at this ⊢; omega

/-- A byte that is a digit, and what it is worth. -/
def dgB (b : UInt8) : Bool := decide (48 ≤ b.toNat) && decide (b.toNat ≤ 57)
def dgV (n : Int) (b : UInt8) : Int := 10 * n + ((b.toNat : Int) - 48)
/-- The number that digits are. -/
def dgN (l : List UInt8) : Int := l.foldl dgV 0
theorem dgN_snoc (l : List UInt8) (b : UInt8) : dgN (l ++ [b]) = 10 * dgN l + ((b.toNat : Int) - 48) := by
  rw [dgN, List.foldl_append]; rfl
theorem dgN_bound : ∀ (k : Nat) (l : List UInt8), l.length = k → (∀ b ∈ l, dgB b = true) → 0 ≤ dgN l ∧ dgN l < 10 ^ k
  | 0, l, h, _ => by rw [List.length_eq_zero_iff.1 h]; exact ⟨Int.le_refl _, by decide⟩
  | k + 1, l, h, hd => by
    obtain ⟨r, b, rfl⟩ : ∃ r b, l = r ++ [b] := ⟨l.dropLast, l.getLast (by intro e; rw [e] at h; simp at h), (List.dropLast_concat_getLast _).symm⟩
    have ih := dgN_bound k r (by simpa using h) (fun x hx => hd x (List.mem_append_left _ hx))
    have hb := hd b (by simp)
    rw [dgB, Bool.and_eq_true, decide_eq_true_iff, decide_eq_true_iff] at hb
    rw [dgN_snoc, Int.pow_succ]
    constructor <;> omega
/-- Whether a text is digits of a number without a needless nought ahead, at most so many. -/
def dgOk (most : Nat) (l : List UInt8) : Bool := decide (1 ≤ l.length) && decide (l.length ≤ most) && !(decide (1 < l.length) && (l.head? == some 48)) && l.all dgB
/-- Whether a text is a number's, and the number. -/
def nmS (l : List UInt8) : Bool := l.head? == some 45
def nmR (l : List UInt8) : List UInt8 := if nmS l = true then l.tail else l
def nmOk (l : List UInt8) : Bool := dgOk 18 (nmR l) && !(nmS l && decide (dgN (nmR l) = 0))
def nmV (l : List UInt8) : Int := if nmOk l = true then (if nmS l = true then -dgN (nmR l) else dgN (nmR l)) else 0
/-- Whether a text is a price's beside the lone hyphen: what stands ahead of the point, and the two digits behind it. -/
def prA (l : List UInt8) : List UInt8 := if Lib.indexByte l 46 = -1 then l else l.take (Lib.indexByte l 46).toNat
def prB (l : List UInt8) : List UInt8 := if Lib.indexByte l 46 = -1 then [] else l.drop ((Lib.indexByte l 46).toNat + 1)
def prOk (l : List UInt8) : Bool := dgOk 9 (prA l) && decide ((prB l).length = 2) && (prB l).all dgB
def prN (l : List UInt8) : Int := dgN (prA l ++ prB l)
end Go.Proofs.YtjjopdkbdebfoaaDoor
