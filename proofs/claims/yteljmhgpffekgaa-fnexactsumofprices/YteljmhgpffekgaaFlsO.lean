/-
  A slice of floats that came in, opened: it reads as a row of floats, each a word of 64 bits.
-/
import Derived.Test.YteljmhgpffekgaaFlsB
import Derived.Deep.Slices
import Derived.Deep.MidRow
import Derived.ChangeArms
import Derived.OpenShut
import Derived.Laws.Cover2
namespace Go.Proofs.Yteljmhgpffekgaa
open Go.RowKit Go.ChangeShapes Go.WideShapes Go.Deep
set_option linter.unusedVariables false

section
variable {H : Type} {enc : TypeId × Value → H} {w : World} {base : Nat} {spare : Nat → Bool} {held : Bool}
/-- What the walk is told of a slice of floats that came in. -/
def IsFloats (w : World) (a : Option Addr) (len cap : Nat) : Prop :=
  len ≤ maxLen ∧ (len ≤ 1073741824 → ∃ l : List Nat, l.length = len ∧ RdF w (.slice a len cap) l ∧ Fls l)

theorem trod_float {P : Program} {t : TypeId} {k : FloatKind} {fuel : Nat} {cs : List Value} {x : DataW H × List MemPlace} (ht : P.underlying t = some (.float k)) (h : DataW.trod enc P w base spare held fuel t cs = some x) :
    ∃ n, cs = [.float k n] ∧ (Lit.float k n).wf = true := by
  cases fuel with
  | zero => simp [DataW.trod] at h
  | succ n =>
    unfold DataW.trod at h
    rw [ht] at h
    split at h <;> simp_all
theorem floats_opened {fuel : Nat} {a : Option Addr} {len cap : Nat} {x : DataW H × List MemPlace} (h : DataW.trod enc Try.prog w base spare held fuel 23 [.slice a len cap] = some x) : IsFloats w a len cap := by
  rcases open_slice Try.underlying23 h with ⟨hcs, _⟩ | ⟨ad, ln, cp, m, n, D, Pl, hcs, _, hl, hm, hmm, _, hel⟩
  · simp only [List.cons.injEq, Value.slice.injEq, and_true] at hcs
    obtain ⟨rfl, rfl, rfl⟩ := hcs
    exact ⟨Nat.zero_le _, fun _ => ⟨[], rfl, ⟨none, 0, rfl, by simp, fun h => absurd rfl h⟩, fun x hx => by simp at hx⟩⟩
  · simp only [List.cons.injEq, Value.slice.injEq, and_true] at hcs
    obtain ⟨rfl, rfl, rfl⟩ := hcs
    have k37 : Try.prog.cellsOf 29 = 1 := by kernel_rfl
    rw [k37] at hel
    have hlm : len ≤ m := by rw [hmm]; split <;> omega
    refine ⟨by omega, fun hb => ?_⟩
    have hc : ∀ i, i < len → ∃ c : Nat, c < 18446744073709551616 ∧ w.cell? (ad.add i) = some (.float .f64 c) := by
      intro i hi
      obtain ⟨cs', h1, h2⟩ := hel i (by omega)
      obtain ⟨n, rfl, hw⟩ := trod_float Try.underlying29 h2
      obtain ⟨_, _, hcell⟩ := World.cells?_some h1
      have := hcell 0 (by decide)
      refine ⟨n, ?_, ?_⟩
      · simpa [Lit.wf] using hw
      · simpa [Nat.mul_one, add_add] using this
    have hb0 : 0 < len → ∃ b off, ad = ⟨b, off, none⟩ := by
      intro hp
      obtain ⟨c, _, h0⟩ := hc 0 hp
      obtain ⟨b, off, spot⟩ := ad
      have hspot : spot = none := by simpa [Addr.add] using World.cell?_spot h0
      subst hspot
      exact ⟨b, off, rfl⟩
    haveI : Inhabited Nat := ⟨0⟩
    obtain ⟨F, hF⟩ := choose_lt hc
    refine ⟨(List.range len).map F, by simp, ⟨some ad, cap, by simp, by simpa using hb, fun hne => ?_⟩, fun c hcm => ?_⟩
    · have hp : 0 < len := by
        rcases Nat.eq_zero_or_pos len with h0 | h0
        · subst h0; simp at hne
        · exact h0
      obtain ⟨b, off, rfl⟩ := hb0 hp
      refine ⟨b, off, rfl, fun i hi => ?_⟩
      have hi' : i < len := by simpa using hi
      have := (hF i hi').2
      rw [Addr.add_mid] at this
      rw [this]
      simp [hi']
    · obtain ⟨i, hi, rfl⟩ := List.mem_map.1 hcm
      exact (hF i (List.mem_range.1 hi)).1
end
end Go.Proofs.Yteljmhgpffekgaa
