/-
  What the row's list gives the walks: the cells of the table of names.
-/
import Derived.Test.YtdfihaabhichdaaDoorRulW
import Derived.OpenShut
import Derived.LaidLaws
import Derived.MakeChecks
namespace Go.Proofs.YtdfihaabhichdaaDoor
open Go.RowKit

theorem gRules : Tryd.prog.globalNamed "loop.example/g00092/impl.ruleNames" = some 0 := by kernel_rfl
theorem tRules : (Tryd.prog.globals[0]?).map (·.type) = some 25 := by kernel_rfl
theorem cRules : Tryd.prog.cellsOf 9 = 1 := by kernel_rfl
theorem rtab_laid {W : World} (h : laidMetH Tryd.prog [("loop.example/g00092/impl.ruleNames", Rows.laid_loop_example_g00092_impl_ruleNames)] W) : TabR W := by
  rw [MakeChecks.laidMetH_plain _ _ _ (by kernel_rfl)] at h
  obtain ⟨ps, ⟨g0, t0, cs, f0, p0, q0, hg0, ht0, hv0, hd0, _, _⟩, _, _⟩ := h
  obtain rfl := Option.some.inj (gRules.symm.trans hg0)
  obtain rfl := Option.some.inj (tRules.symm.trans ht0)
  obtain ⟨xs, m1, rfl, hx1, hlen, hn, hel⟩ := DataW.trod_array Tryd.underlying25 hd0
  simp only [Prod.mk.injEq, Rows.laid_loop_example_g00092_impl_ruleNames, DataW.agg.injEq] at hx1
  intro i hi
  have hi' := hel i hi
  rw [cRules, Nat.mul_one, List.getElem?_eq_getElem (by omega)] at hi'
  obtain ⟨s, hs, hxi, _⟩ := DataW.trod_string Tryd.underlying9 hi'
  have hcell := World.var?_cell hg0 hv0 i
  have hci : cs[i]? = some (.string s) := by
    have := congrArg (·[0]?) hs
    simpa [List.getElem?_take, List.getElem?_drop] using this
  rw [hcell, hci]
  have hdat : (xs.map (·.1))[i]? = some (DataW.lit (.string s.data.toList)) := by
    rw [List.getElem?_map, List.getElem?_eq_getElem (by omega), hxi]; rfl
  rw [← hx1.1] at hdat
  have key : ∀ j, j < 19 → (([DataW.lit (.string []), DataW.lit (.string [102, 114, 97, 109, 101]), DataW.lit (.string [101, 118, 101, 110, 116]), DataW.lit (.string [115, 116, 97, 114, 116]), DataW.lit (.string [114, 101, 97, 115, 111, 110]), DataW.lit (.string [97, 99, 99, 101, 112, 116]), DataW.lit (.string [105, 100]), DataW.lit (.string [99, 111, 117, 110, 116]), DataW.lit (.string [111, 118, 101, 114]), DataW.lit (.string [116, 114, 97, 100, 101]), DataW.lit (.string [109, 97, 107, 101, 114]), DataW.lit (.string [112, 114, 105, 99, 101]), DataW.lit (.string [113, 116, 121]), DataW.lit (.string [114, 101, 115, 116]), DataW.lit (.string [101, 120, 112, 105, 114, 101]), DataW.lit (.string [115, 104, 111, 114, 116]), DataW.lit (.string [116, 111, 116, 97, 108, 115]), DataW.lit (.string [98, 101, 104, 105, 110, 100]), DataW.lit (.string [109, 97, 110, 121])] : List (DataW Unit)))[j]? = some (DataW.lit (.string (rnameAt j).data.toList)) := by
    intro j hj
    rcases (show j = 0 ∨ j = 1 ∨ j = 2 ∨ j = 3 ∨ j = 4 ∨ j = 5 ∨ j = 6 ∨ j = 7 ∨ j = 8 ∨ j = 9 ∨ j = 10 ∨ j = 11 ∨ j = 12 ∨ j = 13 ∨ j = 14 ∨ j = 15 ∨ j = 16 ∨ j = 17 ∨ j = 18 by omega) with rfl | rfl | rfl | rfl | rfl | rfl | rfl | rfl | rfl | rfl | rfl | rfl | rfl | rfl | rfl | rfl | rfl | rfl | rfl <;> rfl
  have := (key i hi).symm.trans hdat
  simp only [Option.some.injEq, DataW.lit.injEq, Lit.string.injEq] at this
  rw [WideShapes.bytes_inj this]
end Go.Proofs.YtdfihaabhichdaaDoor
