/-
  The lines of a text, and what they are as a script; no function walked.
-/
import Derived.Test.YtjjopdkbdebfoaaDoorCmdR
namespace Go.Proofs.YtjjopdkbdebfoaaDoor
open Go.RowKit
set_option linter.unusedVariables false

/-- Pieces without an empty last one. -/
def noE : List (List UInt8) → List (List UInt8)
  | [] => []
  | [p] => if p = [] then [] else [p]
  | p :: q :: r => p :: noE (q :: r)
/-- The lines of a text. -/
def lns (l : List UInt8) : List (List UInt8) := noE (pcs 10 l)
theorem lns_nil : lns [] = [] := rfl
theorem noE_cons (p : List UInt8) {r : List (List UInt8)} (h : r ≠ []) : noE (p :: r) = p :: noE r := by
  cases r with
  | nil => exact absurd rfl h
  | cons q r => rfl
theorem lns_miss {l : List UInt8} (h : Lib.indexByte l 10 = -1) (hne : l ≠ []) : lns l = [l] := by
  unfold lns
  rw [(pcs_miss 10 l h).1, noE, if_neg hne]
theorem lns_hit {l : List UInt8} {m : Nat} (h : Lib.indexByte l 10 = m) : lns l = l.take m :: lns (l.drop (m + 1)) := by
  unfold lns
  obtain ⟨p, ps, hp⟩ := pcs_ne 10 (l.drop (m + 1))
  rw [(pcs_hit 10 l m h).1, noE_cons _ (by rw [hp]; simp)]
theorem noE_snoc (a : List (List UInt8)) (p : List UInt8) : noE (a ++ [p]) = if p = [] then a else a ++ [p] := by
  induction a with
  | nil => simp [noE]
  | cons x a ih =>
    rw [List.cons_append, noE_cons x (by simp), ih]
    split <;> rfl
theorem noE_len : ∀ (l : List (List UInt8)), (noE l).length ≤ l.length
  | [] => Nat.le_refl _
  | [p] => by unfold noE; split <;> simp
  | p :: q :: r => by have := noE_len (q :: r); simp only [noE, List.length_cons] at this ⊢; omega
theorem pcs_len (c : UInt8) : ∀ (x : List UInt8), (pcs c x).length ≤ x.length + 1
  | [] => by simp [pcs]
  | b :: x => by
    have ih := pcs_len c x
    unfold pcs
    obtain ⟨p, ps, hq⟩ := pcs_ne c x
    rw [hq] at ih ⊢
    split <;> simp at ih ⊢ <;> omega
theorem pcs_mem (c : UInt8) : ∀ (x p : List UInt8), p ∈ pcs c x → p.length ≤ x.length
  | [], p, h => by simp [pcs] at h; subst h; simp
  | b :: x, p, h => by
    obtain ⟨q, qs, hq⟩ := pcs_ne c x
    unfold pcs at h
    rw [hq] at h
    split at h
    · rcases List.mem_cons.1 h with rfl | h
      · simp
      · have := pcs_mem c x p (by rw [hq]; exact h); simp; omega
    · rcases List.mem_cons.1 h with rfl | h
      · have := pcs_mem c x q (by rw [hq]; exact List.mem_cons_self ..); simp; omega
      · have := pcs_mem c x p (by rw [hq]; exact List.mem_cons_of_mem _ h); simp; omega
theorem noE_mem : ∀ (l : List (List UInt8)) (p : List UInt8), p ∈ noE l → p ∈ l
  | [], p, h => by simp [noE] at h
  | [q], p, h => by unfold noE at h; split at h <;> simp_all
  | q :: r :: s, p, h => by
    simp only [noE] at h
    rcases List.mem_cons.1 h with rfl | h
    · exact List.mem_cons_self ..
    · exact List.mem_cons_of_mem _ (noE_mem (r :: s) p h)
/-- The words of a line, as texts. -/
def lnW (l : List UInt8) : List ByteArray := (wds l).map (fun x => ⟨x.toArray⟩)
theorem lnW_bys (l : List UInt8) : bys (lnW l) = wds l := by simp [bys, lnW, Function.comp_def]
theorem lnW_of {ws : List ByteArray} {l : List UInt8} (h : bys ws = wds l) : ws = lnW l := bys_eq (h.trans (lnW_bys l).symm)
/-- Whether a line says nothing. -/
def lnN (l : List UInt8) : Bool := decide ((lnW l).length = 0) || ((wL (lnW l) 0).head? == some 35)
/-- The lines from one on, done behind others. -/
def scn : List (List UInt8) → Nat → List Cm → List Cm × Int × Int
  | [], _, out => (out, 0, 0)
  | l :: r, n, out => if lnN l = true then scn r (n + 1) out else if cmK (lnW l) = false then ([], 4, (n : Int)) else if out.length = 200 then ([], 7, (n : Int)) else scn r (n + 1) (out ++ [cmC (lnW l)])
/-- What ReadScript tells of a text. -/
def rsT (l : List UInt8) : List Cm × Int × Int := if 65536 < l.length then ([], 2, 0) else scn (lns l) 1 []
theorem lnW_ne {l : List UInt8} (i : Nat) (h : i < (lnW l).length) : wL (lnW l) i ≠ [] := by
  have h1 : (wB (lnW l) i).data.toList ∈ bys (lnW l) := List.mem_map.2 ⟨_, List.mem_of_getElem? (wB_get h), rfl⟩
  rw [lnW_bys] at h1
  exact goW_ne 32 _ _ _ h1
end Go.Proofs.YtjjopdkbdebfoaaDoor
