/-
  What the row's list gives the walks: the cells of the table of names.
-/
import Derived.Test.YtonpiieogbmobaaDoorRfnW
import Derived.OpenShut
import Derived.LaidLaws
import Derived.MakeChecks
namespace Go.Proofs.YtonpiieogbmobaaDoor
open Go.RowKit

theorem gReas : Tryd.prog.globalNamed "loop.example/g00092/impl.reasonWords" = some 0 := by kernel_rfl
theorem tReas : (Tryd.prog.globals[0]?).map (·.type) = some 25 := by kernel_rfl
theorem cReas : Tryd.prog.cellsOf 9 = 1 := by kernel_rfl
theorem ftab_laid {W : World} (h : laidMetH Tryd.prog [("loop.example/g00092/impl.reasonWords", Rows.laid_loop_example_g00092_impl_reasonWords)] W) : TabF W := by
  rw [MakeChecks.laidMetH_plain _ _ _ (by kernel_rfl)] at h
  obtain ⟨ps, ⟨g0, t0, cs, f0, p0, q0, hg0, ht0, hv0, hd0, _, _⟩, _, _⟩ := h
  obtain rfl := Option.some.inj (gReas.symm.trans hg0)
  obtain rfl := Option.some.inj (tReas.symm.trans ht0)
  obtain ⟨xs, m1, rfl, hx1, hlen, hn, hel⟩ := DataW.trod_array Tryd.underlying25 hd0
  simp only [Prod.mk.injEq, Rows.laid_loop_example_g00092_impl_reasonWords, DataW.agg.injEq] at hx1
  intro i hi
  have hi' := hel i hi
  rw [cReas, Nat.mul_one, List.getElem?_eq_getElem (by omega)] at hi'
  obtain ⟨s, hs, hxi, _⟩ := DataW.trod_string Tryd.underlying9 hi'
  have hcell := World.var?_cell hg0 hv0 i
  have hci : cs[i]? = some (.string s) := by
    have := congrArg (·[0]?) hs
    simpa [List.getElem?_take, List.getElem?_drop] using this
  rw [hcell, hci]
  have hdat : (xs.map (·.1))[i]? = some (DataW.lit (.string s.data.toList)) := by
    rw [List.getElem?_map, List.getElem?_eq_getElem (by omega), hxi]; rfl
  rw [← hx1.1] at hdat
  have key : ∀ j, j < 14 → (([DataW.lit (.string []), DataW.lit (.string [107, 105, 110, 100]), DataW.lit (.string [102, 111, 114, 109]), DataW.lit (.string [115, 105, 100, 101]), DataW.lit (.string [116, 121, 112, 101]), DataW.lit (.string [108, 105, 102, 101]), DataW.lit (.string [112, 114, 105, 99, 101]), DataW.lit (.string [113, 116, 121]), DataW.lit (.string [116, 97, 103]), DataW.lit (.string [105, 100]), DataW.lit (.string [109, 111, 114, 101]), DataW.lit (.string [112, 111, 115, 116]), DataW.lit (.string [102, 105, 108, 108]), DataW.lit (.string [102, 117, 108, 108])] : List (DataW Unit)))[j]? = some (DataW.lit (.string (fnameAt j).data.toList)) := by
    intro j hj
    rcases (show j = 0 ∨ j = 1 ∨ j = 2 ∨ j = 3 ∨ j = 4 ∨ j = 5 ∨ j = 6 ∨ j = 7 ∨ j = 8 ∨ j = 9 ∨ j = 10 ∨ j = 11 ∨ j = 12 ∨ j = 13 by omega) with rfl | rfl | rfl | rfl | rfl | rfl | rfl | rfl | rfl | rfl | rfl | rfl | rfl | rfl <;> rfl
  have := (key i hi).symm.trans hdat
  simp only [Option.some.injEq, DataW.lit.injEq, Lit.string.injEq] at this
  rw [WideShapes.bytes_inj this]
end Go.Proofs.YtonpiieogbmobaaDoor
