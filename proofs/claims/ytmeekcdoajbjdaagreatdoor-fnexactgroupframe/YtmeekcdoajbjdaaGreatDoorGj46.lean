/-
  A slice of events that came in, opened: it reads as a row of events, each number, float and text fitting its kind.
-/
import Derived.Test.YtmeekcdoajbjdaaGreatDoorGj08
import Derived.Test.YtmeekcdoajbjdaaGreatDoorGj43
import Derived.Test.YtmeekcdoajbjdaaGreatDoorGj45
import Derived.Deep.Slices
import Derived.ChangeArms
import Derived.OpenShut
import Derived.LaidLaws
import Derived.LaidHandle
namespace Go.Proofs.YtmeekcdoajbjdaaGreatDoor
open Go.RowKit Go.ChangeShapes Go.WideShapes Go.Deep
set_option linter.unusedVariables false

section
variable {H : Type} {enc : TypeId × Value → H} {w : World} {base : Nat} {spare : Nat → Bool} {held : Bool}
/-- What the walk is told of a slice of events that came in. -/
def IsEvents (w : World) (a : Option Addr) (len cap : Nat) : Prop :=
  len ≤ maxLen ∧ (len ≤ 1073741824 → ∃ l : List Ev, l.length = len ∧ RdR Ev.vs 14 w (.slice a len cap) l ∧ ∀ c ∈ l, c.ok)

theorem events_opened {fuel : Nat} {a : Option Addr} {len cap : Nat} {x : DataW H × List MemPlace} (h : DataW.trod enc Tryz.prog w base spare held fuel 22 [.slice a len cap] = some x) : IsEvents w a len cap := by
  rcases open_slice Tryz.underlying22 h with ⟨hcs, _⟩ | ⟨ad, ln, cp, m, n, D, Pl, hcs, _, hl, hm, hmm, _, hel⟩
  · simp only [List.cons.injEq, Value.slice.injEq, and_true] at hcs
    obtain ⟨rfl, rfl, rfl⟩ := hcs
    exact ⟨Nat.zero_le _, fun _ => ⟨[], rfl, ⟨none, 0, rfl, by simp, fun h => absurd rfl h⟩, by simp⟩⟩
  · simp only [List.cons.injEq, Value.slice.injEq, and_true] at hcs
    obtain ⟨rfl, rfl, rfl⟩ := hcs
    have k37 : Tryz.prog.cellsOf 39 = 14 := by kernel_rfl
    rw [k37] at hel
    have hlm : len ≤ m := by rw [hmm]; split <;> omega
    refine ⟨by omega, fun hb => ?_⟩
    have hc : ∀ i, i < len → ∃ c : Ev, c.ok ∧ ∀ j v, c.vs[j]? = some v → w.cell? (ad.add (i * 14 + j)) = some v := by
      intro i hi
      obtain ⟨cs', h1, h2⟩ := hel i (by omega)
      obtain ⟨c, rfl, hok⟩ := ev_opened h2
      obtain ⟨_, _, hcell⟩ := World.cells?_some h1
      refine ⟨c, hok, fun j v hv => ?_⟩
      have := hcell j (List.getElem?_eq_some_iff.1 hv).1
      rw [add_add] at this
      rw [this, hv]
    have hb0 : 0 < len → ∃ b off, ad = ⟨b, off, none⟩ ∧ b < w.heap.size := by
      intro hp
      obtain ⟨c, _, h0⟩ := hc 0 hp
      have h0 := h0 0 _ rfl
      obtain ⟨b, off, spot⟩ := ad
      have hspot : spot = none := by simpa [Addr.add] using World.cell?_spot h0
      subst hspot
      exact ⟨b, off, rfl, by have := World.block_lt_of_cell? w _ h0; simpa [Addr.add] using this⟩
    haveI : Inhabited Ev := ⟨⟨0, ⟨0, 0, 0, 0, 0, 0, 0, ⟨#[]⟩⟩, 0, 0, 0, 0, 0⟩⟩
    obtain ⟨F, hF⟩ := choose_lt hc
    have hget : ∀ i c, ((List.range len).map F)[i]? = some c → i < len ∧ c = F i := by
      intro i c hi
      have hlt : i < len := by simpa using (List.getElem?_eq_some_iff.1 hi).1
      refine ⟨hlt, ?_⟩
      rw [List.getElem?_map, List.getElem?_range hlt] at hi
      simpa using hi.symm
    refine ⟨(List.range len).map F, by simp, ⟨some ad, cap, by simp, by simpa using hb, fun hne => ?_⟩, fun c hcm => ?_⟩
    · have hp : 0 < len := by
        rcases Nat.eq_zero_or_pos len with h0 | h0
        · subst h0; simp at hne
        · exact h0
      obtain ⟨b, off, rfl, hlt⟩ := hb0 hp
      refine ⟨b, off, rfl, hlt, fun i c hi j v hv => ?_⟩
      obtain ⟨hi', rfl⟩ := hget i c hi
      have := (hF i hi').2 j v hv
      rw [Addr.add_mid] at this
      rw [Nat.add_assoc]; exact this
    · obtain ⟨i, hi⟩ := List.mem_iff_getElem?.1 hcm
      obtain ⟨hi', rfl⟩ := hget i c hi
      exact (hF i hi').1
end
end Go.Proofs.YtmeekcdoajbjdaaGreatDoor
namespace Go.Proofs.YtmeekcdoajbjdaaGreatDoor
open Go.RowKit

theorem gErr : Tryz.prog.globalNamed "errors.errorType" = some 1 := by kernel_rfl
theorem rtErr : (Tryz.prog.cutTypes.find? (·.1 == "internal/reflectlite.rtype")).map (·.2) = some 128 := by kernel_rfl
theorem oneErr : ((List.range 169).filter fun t => Tryz.prog.rowNamed t [101, 114, 114, 111, 114]) = [98] := by kernel_rfl
theorem sizeErr : Tryz.prog.types.size = 169 := by kernel_rfl
theorem err_laid {W : World} (h : laidMetH Tryz.prog [("errors.errorType", Rows.laid_errors_errorType)] W) : ErrT W := by
  have h' : laidMet Tryz.prog [] W ∧ handlesMet Tryz.prog [("errors.errorType", Rows.laid_errors_errorType)] W := h
  obtain ⟨name, u, ty, e1, e2, e3, e4, e5⟩ := h'.2 _ (List.mem_singleton.2 rfl)
  have en : name = [101, 114, 114, 111, 114] := (Option.some.inj e1).symm
  subst en
  obtain rfl := Option.some.inj (rtErr.symm.trans e2)
  have hm : ty ∈ (List.range 169).filter fun t => Tryz.prog.rowNamed t [101, 114, 114, 111, 114] := List.mem_filter.2 ⟨List.mem_range.2 (by rw [← sizeErr]; exact e3), e4⟩
  rw [oneErr] at hm
  obtain rfl := List.mem_singleton.1 hm
  have hh : typeHandle Tryz.prog 98 = .pointer (some ⟨2, 98, none⟩) := by kernel_rfl
  rw [hh] at e5
  simpa [ErrT] using World.var?_cell gErr e5 0
end Go.Proofs.YtmeekcdoajbjdaaGreatDoor
